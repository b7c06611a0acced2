/- A part. -/
import Derived.Test.YtcnohlgigmmefaaGreatPLhI
namespace Go.Proofs.YtcnohlgigmmefaaGreat.Lg
open Go.RowKit Go.Lib
open Tb (Tab TIn Sl okP csT lastN nth Fresh)
open Dk (St Only Grew)
set_option linter.unusedVariables false
set_option maxRecDepth 100000
theorem arrF18 {cs:Array Value} (h:cs.size=18):∃ y:Nat→Value,(∀ i,cs.getD i undef=y i)∧cs=#[y 0,y 1,y 2,y 3,y 4,y 5,y 6,y 7,y 8,y 9,y 10,y 11,y 12,y 13,y 14,y 15,y 16,y 17]:=by
 refine ⟨fun i=>cs.getD i undef,fun _=>rfl,?_⟩
 have e:cs=((List.range 18).map fun i=>cs.getD i undef).toArray:=by
  apply Array.ext
  ·simp [h]
  ·intro i h1 h2
   simp [h1]
 exact e.trans rfl
def pl (l:List (Value→Prop)):List (World→Value→Prop):=l.map fun c _ u=>c u
theorem pl_any {l:List (Value→Prop)} {j:Nat} {W W' : World} {u:Value} (h:Free.V (pl l) j W u):Free.V (pl l) j W' u:=by
 unfold Free.V pl at *
 simp only [List.getD_eq_getElem?_getD,List.getElem?_map] at h ⊢
 cases hi:l[j]? with
 | none=>rw [hi] at h; exact h
 | some c=>rw [hi] at h; exact h
def za (u:Value):Prop:=∃ A m p B k q C n r,u=.agg #[.int .i64 0,.int .i64 0,.slice A m p,.slice B k q,.slice C n r]
def zt (y:Int) (u:Value):Prop:=∃ A m p B k q C n r,u=.tuple #[.agg #[.int .i64 0,.int .i64 0,.slice A m p,.slice B k q,.slice C n r],.int .i64 y]
theorem za_slot {n:Nat} {xs:Array Value} (h:za (xs.getD n undef)):∃ A m p B k q C n' r,xs[n]?.getD undef=.agg #[.int .i64 0,.int .i64 0,.slice A m p,.slice B k q,.slice C n' r]:=by
 obtain ⟨A,m,p,B,k,q,C,n',r,e⟩:=h
 exact ⟨A,m,p,B,k,q,C,n',r,by simpa using e⟩
theorem zt_slot {y:Int} {n:Nat} {xs:Array Value} (h:zt y (xs.getD n undef)):∃ A m p B k q C n' r,xs[n]?.getD undef=.tuple #[.agg #[.int .i64 0,.int .i64 0,.slice A m p,.slice B k q,.slice C n' r],.int .i64 y]:=by
 obtain ⟨A,m,p,B,k,q,C,n',r,e⟩:=h
 exact ⟨A,m,p,B,k,q,C,n',r,by simpa using e⟩
section
variable {W0 w:World} {items:List Dk.Item} {k j l g d:Nat} {s:St} {t:Tab} {ls ep gn:Int} {Kq:Kp}
theorem chk1_any (h:Dk.Sep W0 w items) (hk:items[k]? = some (Dk.diskI d s)) (hj:items[j]? = some (logX 156 g d t ls ep gn Kq)) (hkj:k≠j) {b2 b3:Nat} (ver:Int) (hl:items[l]? = some (locI [(b2,62,#[.pointer (some ⟨g,0,none⟩)]),(b3,38,#[.int .u64 ver])]))
 (hv:0≤ver∧ver<18446744073709551616) (hls:1≤ls∧ls<18446744073709551616) (hep:0≤ep∧ep<4294967296) (hgn:0≤gn∧gn<9223372036854775807) (hsz:2≤s.size) (hpl:s.pend.length<1048576) (S:ByteArray) (hS:Cp.secL ⟨gn+1,ep,ls,ver,t.o,t.l⟩=S.data.toList) :
 Calls Tryz.prog 124 #[.pointer (some ⟨b2,0,none⟩),.pointer (some ⟨b3,0,none⟩)] w (WorkP W0 (chkS s gn S).2.2 (items.set k (Dk.diskI d (chkS s gn S).1)) ((items.set k (Dk.diskI d (chkS s gn S).1)).set j (logX 156 g d t ls ep (chkS s gn S).2.1 Kq))):=by
 have N2:Tb.Blk w b2 62 _:=loc_at h hl _ (List.mem_cons_self ..)
 have N3:Tb.Blk w b3 38 _:=loc_at h hl _ (List.mem_cons_of_mem _ (List.mem_cons_self ..))
 have c2:w.cell? ⟨b2,0,none⟩=some (.pointer (some ⟨g,0,none⟩)):=N2.cell 0
 have c3:w.cell? ⟨b3,0,none⟩=some (.int .u64 ver):=N3.cell 0
 have HC:=Lib.hid (checkpoint_any h hk hj hkj ver hv hls hep hgn hsz hpl S hS)
 clear h hS hv hls hep hgn hsz N2 N3
 go_enter Tryz.func124,Tryz.ntmps124
 go_wp2_with fail
 refine HC.out.mono ?_
 rintro e' w2 (⟨hy,rfl,h2⟩ | ⟨hy,rfl,h2⟩)
 ·have H2:=Lib.hid (And.intro hy h2)
  clear hy h2 HC
  go_wp2_with fail
  go_end0
  exact .inl ⟨H2.out.1,rfl,H2.out.2⟩
 ·exact ⟨rfl,.inr ⟨hy,rfl,h2⟩⟩
set_option maxHeartbeats 8000000 in
theorem drop1_any (h:Dk.Sep W0 w items) (hk:items[k]? = some (Dk.diskI d s)) (hj:items[j]? = some (logX 156 g d t ls ep gn Kq)) (hkj:k≠j) {b3 b4 b5:Nat} (x ver:Int) (hl:items[l]? = some (locI [(b3,62,#[.pointer (some ⟨g,0,none⟩)]),(b4,3,#[.int .i64 x]),(b5,38,#[.int .u64 ver])])) (hlk:l≠k) (hlj:l≠j)
 (hv:0≤ver∧ver<18446744073709551616) (hls:1≤ls∧ls<18446744073709551616) (hep:0≤ep∧ep<4294967296) (hgn:0≤gn∧gn<9223372036854775807) (hsz:2≤s.size) (hpl:s.pend.length<1048576) (S:ByteArray) (hS:∀ t',Tb.dropT t x=some t'→Cp.secL ⟨gn+1,ep,ls,ver,t'.o,t'.l⟩=S.data.toList) :
 Calls Tryz.prog 139 #[.pointer (some ⟨b3,0,none⟩),.pointer (some ⟨b4,0,none⟩),.pointer (some ⟨b5,0,none⟩)] w fun e w' =>
  ((dropS t x s gn S).2.2.2=0∧e=.returned (.tuple #[])∧Dk.Sep W0 w' ((items.set k (Dk.diskI d (dropS t x s gn S).1)).set j (logX 156 g d (dropS t x s gn S).2.1 ls ep (dropS t x s gn S).2.2.1 Kq))) ∨
  ((dropS t x s gn S).2.2.2≠0∧e=.panicked (pan (dropS t x s gn S).2.2.2)∧∃ t1,Dk.Sep W0 w' ((items.set k (Dk.diskI d (dropS t x s gn S).1)).set j (logX 156 g d t1 ls ep gn Kq))):=by
 have N3:Tb.Blk w b3 62 #[.pointer (some ⟨g,0,none⟩)]:=loc_at h hl _ (List.mem_cons_self ..)
 have N4:Tb.Blk w b4 3 #[.int .i64 x]:=loc_at h hl _ (List.mem_cons_of_mem _ (List.mem_cons_self ..))
 obtain ⟨A,m,p,B,k1,q,C,n,r1,hB,ht,_,hok⟩:=x_at h hj
 have hgl:=hB.lt
 cases hc:Tb.dropT t x with
 | none =>
   have EE:dropS t x s gn S=(s,t,gn,1):=by unfold dropS; rw [hc]
   rw [EE]
   have hc' : Tb.dropT ⟨t.sg,t.st,t.o,t.l,t.f⟩ x=none:=hc
   have HDR:Hid (∀ W,Below w.heap.size w W→Calls Tryz.prog 140 #[.agg #[.int .i64 t.sg,.int .i64 t.st,.slice A m p,.slice B k1 q,.slice C n r1],.int .i64 x] W fun e w'=>∃ A1 m1 p1 B1 k2 q1 C1 n1 r2,e=.returned (.tuple #[.agg #[.int .i64 0,.int .i64 0,.slice A1 m1 p1,.slice B1 k2 q1,.slice C1 n1 r2],.int .i64 1])∧Below W.heap.size W w'):=Lib.hid (fun W hw=>by
    have:=Tb.drop_any t.sg t.st A m p B k1 q C n r1 t.o t.l t.f x W (ht.later hw) hok
    rw [hc'] at this
    exact this.mono fun e w' ⟨A1,m1,p1,B1,k2,q1,C1,n1,r2,e1,_,_,_,hb⟩=>⟨A1,m1,p1,B1,k2,q1,C1,n1,r2,e1,hb⟩)
   have HH:Hid (Dk.Sep W0 w ((items.set k (Dk.diskI d s)).set j (logX 156 g d t ls ep gn Kq))):=Lib.hid (by rw [set_same hk,set_same hj]; exact h)
   have HP:Hid (∀ w',Dk.Sep W0 w' ((items.set k (Dk.diskI d s)).set j (logX 156 g d t ls ep gn Kq))→True):=Lib.hid (fun _ _=>trivial)
   clear h hS EE hc hc' ht hv hls hep hgn hsz
   go_enter Tryz.func139,Tryz.ntmps139
   go_wp2_with fail
   refine FreeD.wp_freeD (pl [fun u=>u=.pointer (some ⟨g,0,none⟩),fun u=>u=.pointer (some ⟨g,0,none⟩),fun u=>u=.pointer (some ⟨g,0,none⟩),fun u=>u=.pointer (some ⟨g,1,none⟩),fun u=>u=.agg #[.int .i64 (t.sg),.int .i64 (t.st),.slice A m p,.slice B k1 q,.slice C n r1],fun u=>u=.int .i64 (x),zt 1,za,fun u=>u=.int .i64 1,fun _=>False,fun u=>u=.pointer (some ⟨g,0,none⟩),fun u=>u=.pointer (some ⟨g,1,none⟩),fun _=>True]) (FreeD.Last w 12 (fun _=>False)) (by kernel_rfl) (by kernel_rfl) (FreeD.Last.start _ _ _ _ _) ?_ ?_
   ·refine ⟨?_,?_,?_,?_,?_,?_,?_,?_,?_,?_,?_,?_,?_,trivial⟩
    ·intro listed A0 W hA hD hno hr K' hK
     have hsl:=hA.size
     simp at hsl
     have e0:A0.tmps[0]?.getD undef=.pointer (some ⟨b3,0,none⟩):=FreeD.slot_is ((hA.kept 0 (Free.not_dst (by kernel_rfl))).trans rfl)
     have hx:listed.getD 12 false=false:=hD.not_yet (i:=0) (f:=14) (by kernel_rfl) (FreeD.not_listed (by omega) hno)
     have hw:=hA.c.bef hx
     have f0:W.cell? ⟨b3,0,none⟩=some (.pointer (some ⟨g,0,none⟩)):=(N3.later hw).cell 0
     simp [go_sem,e0,f0]
     exact hK _ _ (hA.c.still (by omega)) rfl (fun j u _ _ hu=>pl_any hu)
    ·intro listed A0 W hA hD hno hr K' hK
     have hsl:=hA.size
     simp at hsl
     have e0:A0.tmps[0]?.getD undef=.pointer (some ⟨b3,0,none⟩):=FreeD.slot_is ((hA.kept 0 (Free.not_dst (by kernel_rfl))).trans rfl)
     have hx:listed.getD 12 false=false:=hD.not_yet (i:=1) (f:=14) (by kernel_rfl) (FreeD.not_listed (by omega) hno)
     have hw:=hA.c.bef hx
     have f0:W.cell? ⟨b3,0,none⟩=some (.pointer (some ⟨g,0,none⟩)):=(N3.later hw).cell 0
     simp [go_sem,e0,f0]
     exact hK _ _ (hA.c.still (by omega)) rfl (fun j u _ _ hu=>pl_any hu)
    ·intro listed A0 W hA hD hno hr K' hK
     have hsl:=hA.size
     simp at hsl
     have e4:A0.tmps[4]?.getD undef=.pointer (some ⟨g,0,none⟩):=FreeD.slot_is (hA.val 1 _ rfl (hr ⟨1,.data⟩ (by simp) rfl))
     simp [go_sem,e4]
     exact hK _ _ (hA.c.still (by omega)) rfl (fun j u _ _ hu=>pl_any hu)
    ·intro listed A0 W hA hD hno hr K' hK
     have hsl:=hA.size
     simp at hsl
     have e5:A0.tmps[5]?.getD undef=.pointer (some ⟨g,0,none⟩):=FreeD.slot_is (hA.val 2 _ rfl (hr ⟨2,.data⟩ (by simp) rfl))
     simp [go_sem,e5]
     exact hK _ _ (hA.c.still (by omega)) rfl (fun j u _ _ hu=>pl_any hu)
    ·intro listed A0 W hA hD hno hr K' hK
     have hsl:=hA.size
     simp at hsl
     have e6:A0.tmps[6]?.getD undef=.pointer (some ⟨g,1,none⟩):=FreeD.slot_is (hA.val 3 _ rfl (hr ⟨3,.data⟩ (by simp) rfl))
     have hx:listed.getD 12 false=false:=hD.not_yet (i:=4) (f:=14) (by kernel_rfl) (FreeD.not_listed (by omega) hno)
     have hw:=hA.c.bef hx
     have f0:W.cell? ⟨g,1,none⟩=some (.int .i64 (t.sg)):=(hB.later hw).cell 1
     have f1:W.cell? ⟨g,2,none⟩=some (.int .i64 (t.st)):=(hB.later hw).cell 2
     have f2:W.cell? ⟨g,3,none⟩=some (.slice A m p):=(hB.later hw).cell 3
     have f3:W.cell? ⟨g,4,none⟩=some (.slice B k1 q):=(hB.later hw).cell 4
     have f4:W.cell? ⟨g,5,none⟩=some (.slice C n r1):=(hB.later hw).cell 5
     simp [go_sem,e6,f0,f1,f2,f3,f4]
     exact hK _ _ (hA.c.still (by omega)) rfl (fun j u _ _ hu=>pl_any hu)
    ·intro listed A0 W hA hD hno hr K' hK
     have hsl:=hA.size
     simp at hsl
     have e1:A0.tmps[1]?.getD undef=.pointer (some ⟨b4,0,none⟩):=FreeD.slot_is ((hA.kept 1 (Free.not_dst (by kernel_rfl))).trans rfl)
     have hx:listed.getD 12 false=false:=hD.not_yet (i:=5) (f:=14) (by kernel_rfl) (FreeD.not_listed (by omega) hno)
     have hw:=hA.c.bef hx
     have f0:W.cell? ⟨b4,0,none⟩=some (.int .i64 (x)):=(N4.later hw).cell 0
     simp [go_sem,e1,f0]
     exact hK _ _ (hA.c.still (by omega)) rfl (fun j u _ _ hu=>pl_any hu)
    ·intro listed A0 W hA hD hno hr K' hK
     have hsl:=hA.size
     simp at hsl
     have e7:A0.tmps[7]?.getD undef=.agg #[.int .i64 (t.sg),.int .i64 (t.st),.slice A m p,.slice B k1 q,.slice C n r1]:=FreeD.slot_is (hA.val 4 _ rfl (hr ⟨4,.data⟩ (by simp) rfl))
     have e8:A0.tmps[8]?.getD undef=.int .i64 (x):=FreeD.slot_is (hA.val 5 _ rfl (hr ⟨5,.data⟩ (by simp) rfl))
     have hx:listed.getD 12 false=false:=hD.not_yet (i:=6) (f:=14) (by kernel_rfl) (FreeD.not_listed (by omega) hno)
     have hw:=hA.c.bef hx
     simp [go_sem,e7,e8]
     refine (HDR.out W hw).mono ?_
     rintro e' w' ⟨A1,m1,p1,B1,k2,q1,C1,n1,r2,rfl,hb⟩
     exact hK _ _ (hA.c.step (by omega) hx hb) ⟨A1,m1,p1,B1,k2,q1,C1,n1,r2,rfl⟩ (fun j u _ _ hu=>pl_any hu)
    ·intro listed A0 W hA hD hno hr K' hK
     have hsl:=hA.size
     simp at hsl
     obtain ⟨A1,m1,p1,B1,k2,q1,C1,n1,r2,e9⟩:=zt_slot (hA.val 6 _ rfl (hr ⟨6,.data⟩ (by simp) rfl))
     simp [go_sem,e9]
     exact hK _ _ (hA.c.still (by omega)) ⟨A1,m1,p1,B1,k2,q1,C1,n1,r2,rfl⟩ (fun j u _ _ hu=>pl_any hu)
    ·intro listed A0 W hA hD hno hr K' hK
     have hsl:=hA.size
     simp at hsl
     obtain ⟨A1,m1,p1,B1,k2,q1,C1,n1,r2,e9⟩:=zt_slot (hA.val 6 _ rfl (hr ⟨6,.data⟩ (by simp) rfl))
     simp [go_sem,e9]
     exact hK _ _ (hA.c.still (by omega)) rfl (fun j u _ _ hu=>pl_any hu)
    ·intro listed A0 W hA hD hno hr K' hK
     have hsl:=hA.size
     simp at hsl
     obtain ⟨A1,m1,p1,B1,k2,q1,C1,n1,r2,e10⟩:=za_slot (hA.val 7 _ rfl (hr ⟨7,.data⟩ (by simp) rfl))
     have e11:A0.tmps[11]?.getD undef=.int .i64 (1):=FreeD.slot_is (hA.val 8 _ rfl (hr ⟨8,.data⟩ (by simp) rfl))
     have hx:listed.getD 12 false=false:=hD.not_yet (i:=9) (f:=14) (by kernel_rfl) (FreeD.not_listed (by omega) hno)
     have hw:=hA.c.bef hx
     simp [go_sem,e10,e11]
     refine (must_t_no _ _ _ _ _ _ _ _ _ _ _ 1 (by decide) W).mono ?_
     rintro e' w' ⟨rfl,hb⟩
     exact ⟨hA.defers.trans rfl,.inr ⟨by decide,rfl,t,HH.out.later (hw.trans (hb.mono hw.size))⟩⟩
    ·intro listed A0 W hA hD hno hr K' hK
     have hsl:=hA.size
     simp at hsl
     have e3:A0.tmps[3]?.getD undef=.pointer (some ⟨g,0,none⟩):=FreeD.slot_is (hA.val 0 _ rfl (hr ⟨0,.data⟩ (by simp) rfl))
     simp [go_sem,e3]
     exact hK _ _ (hA.c.still (by omega)) rfl (fun j u _ _ hu=>pl_any hu)
    ·intro listed A0 W hA hD hno hr K' hK
     have hsl:=hA.size
     simp at hsl
     have e13:A0.tmps[13]?.getD undef=.pointer (some ⟨g,0,none⟩):=FreeD.slot_is (hA.val 10 _ rfl (hr ⟨10,.data⟩ (by simp) rfl))
     simp [go_sem,e13]
     exact hK _ _ (hA.c.still (by omega)) rfl (fun j u _ _ hu=>pl_any hu)
    ·intro listed A0 W hA hD hno hr K' hK
     have hsl:=hA.size
     simp at hsl
     exact absurd (hA.val 9 _ rfl (hr ⟨9,.data⟩ (by simp) rfl)) (fun h=>h)
   ·intro A0 W5 hA
    exact (hA.c.aft rfl).elim
 | some t' =>
   have hok1:okP t':=Tb.drop_ok hok hc
   have EE:dropS t x s gn S=((chkS s gn S).1,t',(chkS s gn S).2.1,(chkS s gn S).2.2):=by unfold dropS; rw [hc]
   rw [EE]
   have hc' : Tb.dropT ⟨t.sg,t.st,t.o,t.l,t.f⟩ x=some t':=hc
   have HDR:Hid (∀ W,Below w.heap.size w W→Calls Tryz.prog 140 #[.agg #[.int .i64 t.sg,.int .i64 t.st,.slice A m p,.slice B k1 q,.slice C n r1],.int .i64 x] W fun e w'=>∃ v,e=.returned (.tuple #[v,.int .i64 0])∧TabR t' w.heap.size (fun x=>x=g) v w'∧Below W.heap.size W w'):=Lib.hid (fun W hw=>by
    have:=Tb.drop_any t.sg t.st A m p B k1 q C n r1 t.o t.l t.f x W (ht.later hw) hok
    rw [hc'] at this
    exact this.mono fun e w' hp=>resP_tab hok1 hgl hw hp)
   have HCK:=Lib.hid (fun W5 (h5:Dk.Sep W0 W5 (items.set j (logX 156 g d t' ls ep gn Kq)))=>checkpoint_any h5 (get_set hk hkj.symm) (get_self hj) hkj ver hv hls hep hgn hsz hpl S (hS t' hc))
   have hl5:(items.set j (logX 156 g d t' ls ep gn Kq))[l]? = some (locI [(b3,62,#[.pointer (some ⟨g,0,none⟩)]),(b4,3,#[.int .i64 x]),(b5,38,#[.int .u64 ver])]):=get_set hl hlj.symm
   clear hS EE hc hc' ht hv hls hep hgn hsz
   go_enter Tryz.func139,Tryz.ntmps139
   go_wp2_with fail
   refine FreeD.wp_freeD ([.is (.pointer (some ⟨g,0,none⟩)),.is (.pointer (some ⟨g,0,none⟩)),.is (.pointer (some ⟨g,0,none⟩)),.is (.pointer (some ⟨g,1,none⟩)),.is (.agg #[.int .i64 (t.sg),.int .i64 (t.st),.slice A m p,.slice B k1 q,.slice C n r1]),.is (.int .i64 (x)),.tup (t') (0),.tab (t'),.is (.int .i64 (0)),.tab (t'),.is (.pointer (some ⟨g,0,none⟩)),.is (.pointer (some ⟨g,1,none⟩)),.any].map (Cq.p w.heap.size g)) (FreeD.Last w 12 (fun W2=>Dk.Sep W0 W2 (items.set j (logX 156 g d t' ls ep gn Kq)))) (by kernel_rfl) (by kernel_rfl) (FreeD.Last.start _ _ _ _ _) ?_ ?_
   ·refine ⟨?_,?_,?_,?_,?_,?_,?_,?_,?_,?_,?_,?_,?_,trivial⟩
    ·intro listed A0 W hA hD hno hr K' hK
     have hsl:=hA.size
     simp at hsl
     have e0:A0.tmps[0]?.getD undef=.pointer (some ⟨b3,0,none⟩):=FreeD.slot_is ((hA.kept 0 (Free.not_dst (by kernel_rfl))).trans rfl)
     have hx:listed.getD 12 false=false:=hD.not_yet (i:=0) (f:=16) (by kernel_rfl) (FreeD.not_listed (by omega) hno)
     have hw:=hA.c.bef hx
     have f0:W.cell? ⟨b3,0,none⟩=some (.pointer (some ⟨g,0,none⟩)):=(N3.later hw).cell 0
     simp [go_sem,e0,f0]
     exact hK _ _ (hA.c.still (by omega)) rfl (fun j u _ _ hu=>hu)
    ·intro listed A0 W hA hD hno hr K' hK
     have hsl:=hA.size
     simp at hsl
     have e0:A0.tmps[0]?.getD undef=.pointer (some ⟨b3,0,none⟩):=FreeD.slot_is ((hA.kept 0 (Free.not_dst (by kernel_rfl))).trans rfl)
     have hx:listed.getD 12 false=false:=hD.not_yet (i:=1) (f:=16) (by kernel_rfl) (FreeD.not_listed (by omega) hno)
     have hw:=hA.c.bef hx
     have f0:W.cell? ⟨b3,0,none⟩=some (.pointer (some ⟨g,0,none⟩)):=(N3.later hw).cell 0
     simp [go_sem,e0,f0]
     exact hK _ _ (hA.c.still (by omega)) rfl (fun j u _ _ hu=>hu)
    ·intro listed A0 W hA hD hno hr K' hK
     have hsl:=hA.size
     simp at hsl
     have e4:A0.tmps[4]?.getD undef=.pointer (some ⟨g,0,none⟩):=FreeD.slot_is (hA.val 1 _ rfl (hr ⟨1,.data⟩ (by simp) rfl))
     simp [go_sem,e4]
     exact hK _ _ (hA.c.still (by omega)) rfl (fun j u _ _ hu=>hu)
    ·intro listed A0 W hA hD hno hr K' hK
     have hsl:=hA.size
     simp at hsl
     have e5:A0.tmps[5]?.getD undef=.pointer (some ⟨g,0,none⟩):=FreeD.slot_is (hA.val 2 _ rfl (hr ⟨2,.data⟩ (by simp) rfl))
     simp [go_sem,e5]
     exact hK _ _ (hA.c.still (by omega)) rfl (fun j u _ _ hu=>hu)
    ·intro listed A0 W hA hD hno hr K' hK
     have hsl:=hA.size
     simp at hsl
     have e6:A0.tmps[6]?.getD undef=.pointer (some ⟨g,1,none⟩):=FreeD.slot_is (hA.val 3 _ rfl (hr ⟨3,.data⟩ (by simp) rfl))
     have hx:listed.getD 12 false=false:=hD.not_yet (i:=4) (f:=16) (by kernel_rfl) (FreeD.not_listed (by omega) hno)
     have hw:=hA.c.bef hx
     have f0:W.cell? ⟨g,1,none⟩=some (.int .i64 (t.sg)):=(hB.later hw).cell 1
     have f1:W.cell? ⟨g,2,none⟩=some (.int .i64 (t.st)):=(hB.later hw).cell 2
     have f2:W.cell? ⟨g,3,none⟩=some (.slice A m p):=(hB.later hw).cell 3
     have f3:W.cell? ⟨g,4,none⟩=some (.slice B k1 q):=(hB.later hw).cell 4
     have f4:W.cell? ⟨g,5,none⟩=some (.slice C n r1):=(hB.later hw).cell 5
     simp [go_sem,e6,f0,f1,f2,f3,f4]
     exact hK _ _ (hA.c.still (by omega)) rfl (fun j u _ _ hu=>hu)
    ·intro listed A0 W hA hD hno hr K' hK
     have hsl:=hA.size
     simp at hsl
     have e1:A0.tmps[1]?.getD undef=.pointer (some ⟨b4,0,none⟩):=FreeD.slot_is ((hA.kept 1 (Free.not_dst (by kernel_rfl))).trans rfl)
     have hx:listed.getD 12 false=false:=hD.not_yet (i:=5) (f:=16) (by kernel_rfl) (FreeD.not_listed (by omega) hno)
     have hw:=hA.c.bef hx
     have f0:W.cell? ⟨b4,0,none⟩=some (.int .i64 (x)):=(N4.later hw).cell 0
     simp [go_sem,e1,f0]
     exact hK _ _ (hA.c.still (by omega)) rfl (fun j u _ _ hu=>hu)
    ·intro listed A0 W hA hD hno hr K' hK
     have hsl:=hA.size
     simp at hsl
     have e7:A0.tmps[7]?.getD undef=.agg #[.int .i64 (t.sg),.int .i64 (t.st),.slice A m p,.slice B k1 q,.slice C n r1]:=FreeD.slot_is (hA.val 4 _ rfl (hr ⟨4,.data⟩ (by simp) rfl))
     have e8:A0.tmps[8]?.getD undef=.int .i64 (x):=FreeD.slot_is (hA.val 5 _ rfl (hr ⟨5,.data⟩ (by simp) rfl))
     have hx:listed.getD 12 false=false:=hD.not_yet (i:=6) (f:=16) (by kernel_rfl) (FreeD.not_listed (by omega) hno)
     have hw:=hA.c.bef hx
     simp [go_sem,e7,e8]
     refine (HDR.out W hw).mono ?_
     rintro e' w' ⟨v,rfl,hv,hb⟩
     exact hK _ _ (hA.c.step (by omega) hx hb) ⟨v,rfl,hv⟩ (fun j u _ _ hu=>Cq.all (fun c=>Cq.keep hb) hu)
    ·intro listed A0 W hA hD hno hr K' hK
     have hsl:=hA.size
     simp at hsl
     obtain ⟨v9,e9,R1⟩:=tup_slot (hA.val 6 _ rfl (hr ⟨6,.data⟩ (by simp) rfl))
     simp [go_sem,e9]
     exact hK _ _ (hA.c.still (by omega)) R1 (fun j u _ _ hu=>hu)
    ·intro listed A0 W hA hD hno hr K' hK
     have hsl:=hA.size
     simp at hsl
     obtain ⟨v9,e9,R1⟩:=tup_slot (hA.val 6 _ rfl (hr ⟨6,.data⟩ (by simp) rfl))
     simp [go_sem,e9]
     exact hK _ _ (hA.c.still (by omega)) rfl (fun j u _ _ hu=>hu)
    ·intro listed A0 W hA hD hno hr K' hK
     have hsl:=hA.size
     simp at hsl
     obtain ⟨A1,m1,p1,B1,k2,q1,C1,n1,r2,W1,e10,T1,F1,S1⟩:=tab_slot (hA.val 7 _ rfl (hr ⟨7,.data⟩ (by simp) rfl))
     have e11:A0.tmps[11]?.getD undef=.int .i64 (0):=FreeD.slot_is (hA.val 8 _ rfl (hr ⟨8,.data⟩ (by simp) rfl))
     have hx:listed.getD 12 false=false:=hD.not_yet (i:=9) (f:=16) (by kernel_rfl) (FreeD.not_listed (by omega) hno)
     have hw:=hA.c.bef hx
     simp [go_sem,e10,e11]
     refine (must_t _ _ _ _ _ _ _ _ _ _ _ W).mono ?_
     rintro e' w' ⟨rfl,hb⟩
     exact hK _ _ (hA.c.step (by omega) hx hb) ⟨A1,m1,p1,B1,k2,q1,C1,n1,r2,W1,rfl,T1.later hb,F1,fun x hx=>by subst hx; exact S1⟩ (fun j u _ _ hu=>Cq.all (fun c=>Cq.keep hb) hu)
    ·intro listed A0 W hA hD hno hr K' hK
     have hsl:=hA.size
     simp at hsl
     have e3:A0.tmps[3]?.getD undef=.pointer (some ⟨g,0,none⟩):=FreeD.slot_is (hA.val 0 _ rfl (hr ⟨0,.data⟩ (by simp) rfl))
     simp [go_sem,e3]
     exact hK _ _ (hA.c.still (by omega)) rfl (fun j u _ _ hu=>hu)
    ·intro listed A0 W hA hD hno hr K' hK
     have hsl:=hA.size
     simp at hsl
     have e13:A0.tmps[13]?.getD undef=.pointer (some ⟨g,0,none⟩):=FreeD.slot_is (hA.val 10 _ rfl (hr ⟨10,.data⟩ (by simp) rfl))
     simp [go_sem,e13]
     exact hK _ _ (hA.c.still (by omega)) rfl (fun j u _ _ hu=>hu)
    ·intro listed A0 W hA hD hno hr K' hK
     have hsl:=hA.size
     simp at hsl
     have e14:A0.tmps[14]?.getD undef=.pointer (some ⟨g,1,none⟩):=FreeD.slot_is (hA.val 11 _ rfl (hr ⟨11,.data⟩ (by simp) rfl))
     obtain ⟨A1,m1,p1,B1,k2,q1,C1,n1,r2,W1,e12,T1,F1,S1⟩:=tab_slot (hA.val 9 _ rfl (hr ⟨9,.data⟩ (by simp) rfl))
     have hx:listed.getD 12 false=false:=FreeD.not_listed (by omega) hno
     have hw:=hA.c.bef hx
     refine wp_store_pt (.tmp 14) (.tmp 12) rfl g (by simpa [Act.eval] using e14) (by simpa [Act.eval] using e12) (hB.later hw) ?_
     exact hK undef _ (FreeD.Last.last (by omega) (x_tab h hj hw T1 hok1 F1)) trivial (fun j u _ _ hu=>Cq.all (fun c=>Cq.row _) hu)
   ·intro A0 W5 hA
    have h5:=hA.c.aft rfl
    have N3:Tb.Blk W5 b3 62 #[.pointer (some ⟨g,0,none⟩)]:=loc_at h5 hl5 _ (List.mem_cons_self ..)
    have N5:Tb.Blk W5 b5 38 #[.int .u64 ver]:=loc_at h5 hl5 _ (List.mem_cons_of_mem _ (List.mem_cons_of_mem _ (List.mem_cons_self ..)))
    have s0:A0.tmps.getD 0 undef=.pointer (some ⟨b3,0,none⟩):=(hA.kept 0 (Free.not_dst (by kernel_rfl))).trans rfl
    have s2:A0.tmps.getD 2 undef=.pointer (some ⟨b5,0,none⟩):=(hA.kept 2 (Free.not_dst (by kernel_rfl))).trans rfl
    have hsl:=hA.slots
    have hde:=hA.defers
    have c3:W5.cell? ⟨b3,0,none⟩=some (.pointer (some ⟨g,0,none⟩)):=N3.cell 0
    have c5:W5.cell? ⟨b5,0,none⟩=some (.int .u64 ver):=N5.cell 0
    have HC:=Lib.hid (HCK.out W5 h5)
    clear hA h5 N3 N5 HCK hB h
    obtain ⟨tm,de⟩:=A0
    simp only at s0 s2 hsl hde
    obtain ⟨y,hy,ee⟩:=arrF18 hsl
    have t0:=(hy 0).symm.trans s0
    have t2:=(hy 2).symm.trans s2
    rw [t0,t2] at ee
    clear hy s0 s2 hsl t0 t2
    subst ee hde
    go_wp2_with fail
    refine HC.out.mono ?_
    rintro e' w6 (⟨hy,rfl,h6⟩ | ⟨hy,rfl,h6⟩)
    ·have H6:=Lib.hid (And.intro hy h6)
     clear hy h6 HC c3 c5
     go_wp2_with fail
     go_end0
     exact .inl ⟨H6.out.1,rfl,by have:=H6.out.2; rw [set3 hkj] at this; exact this⟩
    ·exact ⟨rfl,.inr ⟨hy,rfl,t',by rw [List.set_comm _ _ hkj.symm] at h6; exact h6⟩⟩
end
end Go.Proofs.YtcnohlgigmmefaaGreat.Lg
