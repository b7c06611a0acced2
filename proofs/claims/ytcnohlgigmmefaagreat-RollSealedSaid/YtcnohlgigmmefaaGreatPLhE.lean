/- A part. -/
import Derived.Test.YtcnohlgigmmefaaGreatPLhD
import Derived.Test.YtcnohlgigmmefaaGreatPLgI
namespace Go.Proofs.YtcnohlgigmmefaaGreat.Lg
open Go.RowKit Go.Lib
open Tb (Tab TIn Sl okP csT lastN nth Fresh)
open Dk (St Only Grew)
set_option linter.unusedVariables false
set_option maxRecDepth 100000
inductive Cq where
 | any
 | is (v:Value)
 | tab (t:Tab)
 | tup (t:Tab) (y:Int)
def Cq.p (N0 g:Nat):Cq→World→Value→Prop
 | .any=>fun _ _=>True
 | .is v=>fun _ u=>u=v
 | .tab t=>fun W u=>TabR t N0 (fun x=>x=g) u W
 | .tup t y=>fun W u=>∃ v,u=.tuple #[v,.int .i64 y]∧TabR t N0 (fun x=>x=g) v W
theorem tabR_later {t' : Tab} {N0:Nat} {S:Nat→Prop} {u:Value} {W W' : World} (h:TabR t' N0 S u W) (hb:Below W.heap.size W W'):TabR t' N0 S u W':=by
 obtain ⟨A,m,p,B,k,q,C,n,r,W1,e,h1,h2,h3⟩:=h
 exact ⟨A,m,p,B,k,q,C,n,r,W1,e,h1.later hb,h2,h3⟩
theorem tabR_row {t' : Tab} {N0 g:Nat} {u:Value} {W:World} (h:TabR t' N0 (fun x=>x=g) u W) (cs:Array Value):TabR t' N0 (fun x=>x=g) u (W.setRow g cs):=by
 obtain ⟨A,m,p,B,k,q,C,n,r,W1,e,h1,h2,h3⟩:=h
 exact ⟨A,m,p,B,k,q,C,n,r,W1,e,tin_row h1 (h3 g rfl) cs,h2,h3⟩
theorem Cq.keep {N0 g:Nat} {c:Cq} {W W' : World} {u:Value} (hb:Below W.heap.size W W') (h:c.p N0 g W u):c.p N0 g W' u:=by
 cases c with
 | any=>exact trivial
 | is v=>exact h
 | tab t=>exact tabR_later h hb
 | tup t y=>exact ⟨h.choose,h.choose_spec.1,tabR_later h.choose_spec.2 hb⟩
theorem Cq.row {N0 g:Nat} {c:Cq} {W:World} {u:Value} (cs:Array Value) (h:c.p N0 g W u):c.p N0 g (W.setRow g cs) u:=by
 cases c with
 | any=>exact trivial
 | is v=>exact h
 | tab t=>exact tabR_row h cs
 | tup t y=>exact ⟨h.choose,h.choose_spec.1,tabR_row h.choose_spec.2 cs⟩
theorem Cq.all {N0 g:Nat} {l:List Cq} {j:Nat} {W W' : World} {u:Value} (hc:∀ c:Cq,c.p N0 g W u→c.p N0 g W' u) (h:Free.V (l.map (Cq.p N0 g)) j W u):Free.V (l.map (Cq.p N0 g)) j W' u:=by
 unfold Free.V at *
 simp only [List.getD_eq_getElem?_getD,List.getElem?_map] at h ⊢
 cases hi:l[j]? with
 | none=>rw [hi] at h; exact h
 | some c=>rw [hi] at h; exact hc c h
theorem tab_slot {t' : Tab} {N0 g n:Nat} {W:World} {xs:Array Value} (h:Cq.p N0 g (.tab t') W (xs.getD n undef)):∃ A m p B k q C n' r W1,xs[n]?.getD undef=.agg #[.int .i64 t'.sg,.int .i64 t'.st,.slice A m p,.slice B k q,.slice C n' r]∧TIn W A m B k C n' t'.o t'.l t'.f∧(Fresh W1 N0 A m∧Fresh W1 N0 B k∧Fresh W1 N0 C n')∧Nb3 A B C g:=by
 obtain ⟨A,m,p,B,k,q,C,n',r,W1,e,h1,h2,h3⟩:=h
 exact ⟨A,m,p,B,k,q,C,n',r,W1,by simpa using e,h1,h2,h3 g rfl⟩
theorem tup_slot {t' : Tab} {y:Int} {N0 g n:Nat} {W:World} {xs:Array Value} (h:Cq.p N0 g (.tup t' y) W (xs.getD n undef)):∃ v,xs[n]?.getD undef=.tuple #[v,.int .i64 y]∧TabR t' N0 (fun x=>x=g) v W:=by
 obtain ⟨v,e,h1⟩:=h
 exact ⟨v,by simpa using e,h1⟩
section
variable {o:Oper} {a:Act} {w:World} {K:Act→World→Prop} {Q:Exit→Act→World→Prop}
theorem wp_store_pt (x y:Operand) (ho:o.op=.store 45 x y) (g:Nat) (hx:a.eval x=.pointer (some ⟨g,1,none⟩)) {sg st:Int} {A:Option Addr} {m p:Nat} {B:Option Addr} {k q:Nat} {C:Option Addr} {n r:Nat} (hy:a.eval y=.agg #[.int .i64 sg,.int .i64 st,.slice A m p,.slice B k q,.slice C n r]) {t:Tab} {A0:Option Addr} {m0 p0:Nat} {B0:Option Addr} {k0 q0:Nat} {C0:Option Addr} {n0 r0:Nat} {d:Nat} {T:TypeId} {ls ep gn:Int} (hB:Tb.Blk w g T (csL d t.sg t.st A0 m0 p0 B0 k0 q0 C0 n0 r0 ls ep gn))
 (h:K (a.put o.dst undef) (w.setRow g (csL d sg st A m p B k q C n r ls ep gn))):o.wp Tryz.prog a w K Q:=by
 refine wp_store_mid _ x y ho g 1 #[.int .i64 sg,.int .i64 st,.slice A m p,.slice B k q,.slice C n r] hx hy (fun j hj=>?_) info_tp (Tb.csT_one sg st A m p B k q C n r) ?_
 ·have hj5:j<5:=hj
  rw [hB.cell,hB.frozen]
  rcases (by omega:j=0∨j=1∨j=2∨j=3∨j=4) with rfl|rfl|rfl|rfl|rfl <;> exact ⟨rfl,rfl⟩
 ·rw [show (#[.int .i64 sg,.int .i64 st,.slice A m p,.slice B k q,.slice C n r]:Array Value).toList=[.int .i64 sg,.int .i64 st,.slice A m p,.slice B k q,.slice C n r] from rfl,tab_cells hB]
  exact h
end
theorem resP_tab {t' : Tab} {w W w' : World} {g:Nat} {e:Ending} (hok:okP t') (hg:g<w.heap.size) (hw:Below w.heap.size w W) (h:Tb.ResP t' 0 W e w'):∃ v,e=.returned (.tuple #[v,.int .i64 0])∧TabR t' w.heap.size (fun x=>x=g) v w'∧Below W.heap.size W w':=by
 obtain ⟨A,m,p,B,k,q,C,n,r,e,ht,_,hf,hb⟩:=h
 have hf2:Fresh w' w.heap.size A m∧Fresh w' w.heap.size B k∧Fresh w' w.heap.size C n:=⟨fresh_wide hf.1 hw.size,fresh_wide hf.2.1 hw.size,fresh_wide hf.2.2 hw.size⟩
 exact ⟨_,e,⟨A,m,p,B,k,q,C,n,r,w',rfl,ht,hf2,fun x hx=>by subst hx; exact fresh_nb3 hok ht hf2 hg⟩,hb⟩
end Go.Proofs.YtcnohlgigmmefaaGreat.Lg
namespace Go.Proofs.YtcnohlgigmmefaaGreat.Lg
open Go.RowKit Go.Lib
open Tb (Tab TIn Sl okP csT lastN nth Fresh)
open Dk (St Only Grew)
set_option linter.unusedVariables false
set_option maxRecDepth 100000
def WorkP (W0:World) (y:Int) (no yes:List Dk.Item) (e:Ending) (w' : World):Prop :=
 (y=0∧e=.returned (.tuple #[])∧Dk.Sep W0 w' yes)∨(y≠0∧e=.panicked (pan y)∧Dk.Sep W0 w' no)
set_option maxHeartbeats 8000000 in
theorem roll_any {W0 w:World} {items:List Dk.Item} {k j g d:Nat} {s:St} {t:Tab} {ls ep gn:Int} {Kq:Kp} (h:Dk.Sep W0 w items) (hk:items[k]? = some (Dk.diskI d s)) (hj:items[j]? = some (logX 156 g d t ls ep gn Kq)) (hkj:k≠j)
 (hls:1≤ls∧ls+1<18446744073709551616) (hep:0≤ep∧ep<4294967296) (hfit:FitS t s) (hpl:s.pend.length<1048576) :
 Calls Tryz.prog 92 #[.pointer (some ⟨g,0,none⟩)] w (WorkP W0 (sealS t s ls (footB t ls ep)).2.2.2 items ((items.set k (Dk.diskI d (sealS t s ls (footB t ls ep)).1)).set j (logX 156 g d (sealS t s ls (footB t ls ep)).2.1 (sealS t s ls (footB t ls ep)).2.2.1 ep gn Kq))):=by
 obtain ⟨A,m,p,B,k1,q,C,n,r1,hB,ht,_,hok⟩:=x_at h hj
 have hbd:=Tb.ok_bd hok
 have hml:=(Tb.ok_full hok ht).2.2.2.2.1
 have HFR:=Lib.hid (Tb.tfree_any t.sg t.st A m p B k1 q C n r1 t.o t.l t.f w ht hml hbd.1)
 have hhas:=has_open hok hfit
 cases hfr:Tb.freeT t with
 | nil =>
   have EE:sealS t s ls (footB t ls ep)=(s,t,ls,10):=by unfold sealS; rw [hfr]
   rw [EE]
   have hfr' : Tb.freeT ⟨t.sg,t.st,t.o,t.l,t.f⟩=[]:=hfr
   have HH:=Lib.hid h
   clear h EE hhas hls hbd hfr hfit
   go_enter Tryz.func92,Tryz.ntmps92
   go_wp2_with (with_reducible refine load_pt rfl (.tmp 5) rfl g rfl hB ?_)
   refine HFR.out.mono ?_
   rintro e' w1 ⟨A1,m1,p1,rfl,s1,hb⟩
   rw [hfr'] at s1
   obtain rfl:m1=0:=s1.len
   have BB:=Lib.hid hb
   clear hb s1 hB ht HFR hfr'
   go_wp2_with fail
   exact ⟨rfl,.inr ⟨by decide,rfl,HH.out.later BB.out⟩⟩
 | cons f lr =>
   have hfr' : Tb.freeT ⟨t.sg,t.st,t.o,t.l,t.f⟩=f :: lr:=hfr
   have hfi:=Tb.free_in (t:=t) (s:=f) (by rw [hfr]; exact List.mem_cons_self ..) hbd.1.1
   have bf:0≤f∧f<16:=by omega
   have ef:IntKind.u64.wrap f=f:=by rw [IntKind.wrap_u64]; omega
   have hS:=footB_eq (ls:=ls) (ep:=ep) hfr
   obtain ⟨S,ES⟩:∃ S,footB t ls ep=S:=⟨_,rfl⟩
   rw [ES] at hS ⊢
   have hok1:okP (Tb.openedT t f (ls+1)):=Tb.opened_ok hok (by rw [hfr]; exact List.mem_cons_self ..)
   have hro:Tb.rollT t (ls+1)=some (Tb.openedT t f (ls+1)):=by unfold Tb.rollT; rw [hfr]
   have EE:sealS t s ls S=if s.dead then (s,t,ls,9) else (s.write (Tb.sectorT t.st (lastN t.o) (lastN t.l)) S,Tb.openedT t f (ls+1),ls+1,0):=by unfold sealS; rw [hfr]
   obtain ⟨L1,EL⟩:∃ z,ls+1=z:=⟨_,rfl⟩
   have HWR:=Lib.hid (fun w1 (h1:Dk.Sep W0 w1 items)=>write_any h1 hk hj hkj 0 0 3 0 f ⟨#[]⟩ ⟨#[]⟩ hls ⟨by simp only; omega,by simp only; omega,hep.1,hep.2,by simp only; omega,by simp only; omega,by simp only; omega,by simp only; omega⟩ (foot_ok hls.1 bf.2) hhas hpl S hS)
   rw [EL] at hro hok1 EE HWR
   have HE:=Lib.hid EE
   have HH:=Lib.hid h
   have HRL:=Lib.hid hro
   clear h EE hhas hls hbd hfr hfit hro hS ES EL hpl hep hfi
   go_enter Tryz.func92,Tryz.ntmps92
   go_wp2_with (with_reducible refine load_pt rfl (.tmp 5) rfl g rfl hB ?_)
   refine HFR.out.mono ?_
   rintro e' w1 ⟨A1,m1,p1,rfl,s1,hb⟩
   rw [hfr'] at s1
   have hm1:0<m1:=by have:=s1.len; simp at this; omega
   obtain ⟨b,o,rfl,hb1,hc⟩:=s1.cells hm1
   have c0:w1.cell? ⟨b,o,none⟩=some (.int .i64 f):=hc 0 hm1
   have h1:=HH.out.later hb
   have HW:=Lib.hid (HWR.out w1 h1)
   have q0:((m1:Int) == 0)=false:=by have:¬ ((m1:Int)=0):=by omega
                                     simpa using this
   have q1:(0:Int)<(m1:Int):=by omega
   clear s1 hc hb h1 hB ht HFR hfr' HWR HH
   go_wp2_with fail
   refine HW.out.mono ?_
   rintro e' w2 (⟨hd,rfl,h2⟩ | ⟨hd,rfl,h2⟩)
   rotate_left
   ·have E9:=HE.out.trans (if_pos hd)
    exact ⟨rfl,.inr (by rw [E9]; exact ⟨by simp,rfl,h2⟩)⟩
   ·have E0:=HE.out.trans (if_neg hd)
    have hj2:(((items.set k (Dk.diskI d (s.write (Tb.sectorT t.st (lastN t.o) (lastN t.l)) S))).set j (logX 156 g d t L1 ep gn Kq)))[j]? = some (logX 156 g d t L1 ep gn Kq):=get_self (get_set hj hkj)
    have HE0:=Lib.hid E0
    clear hd E0 HE HW c0 q0 q1 hm1 ef
    obtain ⟨A,m,p,B,k1,q,C,n,r1,hB2,ht2,_,hok2⟩:=x_at h2 hj2
    have hgl:=hB2.lt
    have HRO:Hid (∀ W,Below w2.heap.size w2 W→Calls Tryz.prog 119 #[.agg #[.int .i64 t.sg,.int .i64 t.st,.slice A m p,.slice B k1 q,.slice C n r1],.int .u64 L1] W fun e w'=>∃ v,e=.returned (.tuple #[v,.int .i64 0])∧TabR (Tb.openedT t f L1) w2.heap.size (fun x=>x=g) v w'∧Below W.heap.size W w'):=Lib.hid (fun W hw=>by
     have:=Tb.roll_any t.sg t.st A m p B k1 q C n r1 t.o t.l t.f L1 W (ht2.later hw) hok2
     have hr' : Tb.rollT ⟨t.sg,t.st,t.o,t.l,t.f⟩ L1=some (Tb.openedT t f L1):=HRL.out
     rw [hr'] at this
     exact this.mono fun e w' hp=>resP_tab hok1 hgl hw hp)
    go_wp2_with fail
    refine FreeD.wp_freeD ([.is (.pointer (some ⟨g,0,none⟩)),.is (.pointer (some ⟨g,0,none⟩)),.is (.pointer (some ⟨g,0,none⟩)),.is (.pointer (some ⟨g,1,none⟩)),.is (.agg #[.int .i64 (t.sg),.int .i64 (t.st),.slice A m p,.slice B k1 q,.slice C n r1]),.is (.pointer (some ⟨g,0,none⟩)),.is (.pointer (some ⟨g,0,none⟩)),.is (.pointer (some ⟨g,6,none⟩)),.is (.int .u64 L1),.tup (Tb.openedT t f L1) (0),.tab (Tb.openedT t f L1),.is (.int .i64 (0)),.tab (Tb.openedT t f L1),.is (.pointer (some ⟨g,0,none⟩)),.is (.pointer (some ⟨g,1,none⟩)),.any].map (Cq.p w2.heap.size g)) (FreeD.Last w2 15 (fun W2=>Dk.Sep W0 W2 (((items.set k (Dk.diskI d (s.write (Tb.sectorT t.st (lastN t.o) (lastN t.l)) S))).set j (logX 156 g d t L1 ep gn Kq)).set j (logX 156 g d (Tb.openedT t f L1) L1 ep gn Kq)))) (by kernel_rfl) (by kernel_rfl) (FreeD.Last.start _ _ _ _ _) ?_ ?_
    ·refine ⟨?_,?_,?_,?_,?_,?_,?_,?_,?_,?_,?_,?_,?_,?_,?_,?_,trivial⟩
     ·intro listed A0 W hA hD hno hr K' hK
      have hsl:=hA.size
      simp at hsl
      have e0:A0.tmps[0]?.getD undef=.pointer (some ⟨g,0,none⟩):=FreeD.slot_is ((hA.kept 0 (Free.not_dst (by kernel_rfl))).trans rfl)
      simp [go_sem,e0]
      exact hK _ _ (hA.c.still (by omega)) rfl (fun j u _ _ hu=>hu)
     ·intro listed A0 W hA hD hno hr K' hK
      have hsl:=hA.size
      simp at hsl
      have e0:A0.tmps[0]?.getD undef=.pointer (some ⟨g,0,none⟩):=FreeD.slot_is ((hA.kept 0 (Free.not_dst (by kernel_rfl))).trans rfl)
      simp [go_sem,e0]
      exact hK _ _ (hA.c.still (by omega)) rfl (fun j u _ _ hu=>hu)
     ·intro listed A0 W hA hD hno hr K' hK
      have hsl:=hA.size
      simp at hsl
      have e20:A0.tmps[20]?.getD undef=.pointer (some ⟨g,0,none⟩):=FreeD.slot_is (hA.val 1 _ rfl (hr ⟨1,.data⟩ (by simp) rfl))
      simp [go_sem,e20]
      exact hK _ _ (hA.c.still (by omega)) rfl (fun j u _ _ hu=>hu)
     ·intro listed A0 W hA hD hno hr K' hK
      have hsl:=hA.size
      simp at hsl
      have e21:A0.tmps[21]?.getD undef=.pointer (some ⟨g,0,none⟩):=FreeD.slot_is (hA.val 2 _ rfl (hr ⟨2,.data⟩ (by simp) rfl))
      simp [go_sem,e21]
      exact hK _ _ (hA.c.still (by omega)) rfl (fun j u _ _ hu=>hu)
     ·intro listed A0 W hA hD hno hr K' hK
      have hsl:=hA.size
      simp at hsl
      have e22:A0.tmps[22]?.getD undef=.pointer (some ⟨g,1,none⟩):=FreeD.slot_is (hA.val 3 _ rfl (hr ⟨3,.data⟩ (by simp) rfl))
      have hx:listed.getD 15 false=false:=hD.not_yet (i:=4) (f:=16) (by kernel_rfl) (FreeD.not_listed (by omega) hno)
      have hw:=hA.c.bef hx
      have f0:W.cell? ⟨g,1,none⟩=some (.int .i64 (t.sg)):=(hB2.later hw).cell 1
      have f1:W.cell? ⟨g,2,none⟩=some (.int .i64 (t.st)):=(hB2.later hw).cell 2
      have f2:W.cell? ⟨g,3,none⟩=some (.slice A m p):=(hB2.later hw).cell 3
      have f3:W.cell? ⟨g,4,none⟩=some (.slice B k1 q):=(hB2.later hw).cell 4
      have f4:W.cell? ⟨g,5,none⟩=some (.slice C n r1):=(hB2.later hw).cell 5
      simp [go_sem,e22,f0,f1,f2,f3,f4]
      exact hK _ _ (hA.c.still (by omega)) rfl (fun j u _ _ hu=>hu)
     ·intro listed A0 W hA hD hno hr K' hK
      have hsl:=hA.size
      simp at hsl
      have e0:A0.tmps[0]?.getD undef=.pointer (some ⟨g,0,none⟩):=FreeD.slot_is ((hA.kept 0 (Free.not_dst (by kernel_rfl))).trans rfl)
      simp [go_sem,e0]
      exact hK _ _ (hA.c.still (by omega)) rfl (fun j u _ _ hu=>hu)
     ·intro listed A0 W hA hD hno hr K' hK
      have hsl:=hA.size
      simp at hsl
      have e24:A0.tmps[24]?.getD undef=.pointer (some ⟨g,0,none⟩):=FreeD.slot_is (hA.val 5 _ rfl (hr ⟨5,.data⟩ (by simp) rfl))
      simp [go_sem,e24]
      exact hK _ _ (hA.c.still (by omega)) rfl (fun j u _ _ hu=>hu)
     ·intro listed A0 W hA hD hno hr K' hK
      have hsl:=hA.size
      simp at hsl
      have e25:A0.tmps[25]?.getD undef=.pointer (some ⟨g,0,none⟩):=FreeD.slot_is (hA.val 6 _ rfl (hr ⟨6,.data⟩ (by simp) rfl))
      simp [go_sem,e25]
      exact hK _ _ (hA.c.still (by omega)) rfl (fun j u _ _ hu=>hu)
     ·intro listed A0 W hA hD hno hr K' hK
      have hsl:=hA.size
      simp at hsl
      have e26:A0.tmps[26]?.getD undef=.pointer (some ⟨g,6,none⟩):=FreeD.slot_is (hA.val 7 _ rfl (hr ⟨7,.data⟩ (by simp) rfl))
      have hx:listed.getD 15 false=false:=hD.not_yet (i:=8) (f:=16) (by kernel_rfl) (FreeD.not_listed (by omega) hno)
      have hw:=hA.c.bef hx
      have f0:W.cell? ⟨g,6,none⟩=some (.int .u64 L1):=(hB2.later hw).cell 6
      simp [go_sem,e26,f0]
      exact hK _ _ (hA.c.still (by omega)) rfl (fun j u _ _ hu=>hu)
     ·intro listed A0 W hA hD hno hr K' hK
      have hsl:=hA.size
      simp at hsl
      have e23:A0.tmps[23]?.getD undef=.agg #[.int .i64 (t.sg),.int .i64 (t.st),.slice A m p,.slice B k1 q,.slice C n r1]:=FreeD.slot_is (hA.val 4 _ rfl (hr ⟨4,.data⟩ (by simp) rfl))
      have e27:A0.tmps[27]?.getD undef=.int .u64 L1:=FreeD.slot_is (hA.val 8 _ rfl (hr ⟨8,.data⟩ (by simp) rfl))
      have hx:listed.getD 15 false=false:=hD.not_yet (i:=9) (f:=16) (by kernel_rfl) (FreeD.not_listed (by omega) hno)
      have hw:=hA.c.bef hx
      simp [go_sem,e23,e27]
      refine (HRO.out W hw).mono ?_
      rintro e' w' ⟨v,rfl,hv,hb⟩
      exact hK _ _ (hA.c.step (by omega) hx hb) ⟨v,rfl,hv⟩ (fun j u _ _ hu=>Cq.all (fun c=>Cq.keep hb) hu)
     ·intro listed A0 W hA hD hno hr K' hK
      have hsl:=hA.size
      simp at hsl
      obtain ⟨v28,e28,R1⟩:=tup_slot (hA.val 9 _ rfl (hr ⟨9,.data⟩ (by simp) rfl))
      simp [go_sem,e28]
      exact hK _ _ (hA.c.still (by omega)) R1 (fun j u _ _ hu=>hu)
     ·intro listed A0 W hA hD hno hr K' hK
      have hsl:=hA.size
      simp at hsl
      obtain ⟨v28,e28,R1⟩:=tup_slot (hA.val 9 _ rfl (hr ⟨9,.data⟩ (by simp) rfl))
      simp [go_sem,e28]
      exact hK _ _ (hA.c.still (by omega)) rfl (fun j u _ _ hu=>hu)
     ·intro listed A0 W hA hD hno hr K' hK
      have hsl:=hA.size
      simp at hsl
      obtain ⟨A1,m1,p1,B1,k2,q1,C1,n1,r2,W1,e29,T1,F1,S1⟩:=tab_slot (hA.val 10 _ rfl (hr ⟨10,.data⟩ (by simp) rfl))
      have e30:A0.tmps[30]?.getD undef=.int .i64 (0):=FreeD.slot_is (hA.val 11 _ rfl (hr ⟨11,.data⟩ (by simp) rfl))
      have hx:listed.getD 15 false=false:=hD.not_yet (i:=12) (f:=16) (by kernel_rfl) (FreeD.not_listed (by omega) hno)
      have hw:=hA.c.bef hx
      simp [go_sem,e29,e30]
      refine (must_t _ _ _ _ _ _ _ _ _ _ _ W).mono ?_
      rintro e' w' ⟨rfl,hb⟩
      exact hK _ _ (hA.c.step (by omega) hx hb) ⟨A1,m1,p1,B1,k2,q1,C1,n1,r2,W1,rfl,T1.later hb,F1,fun x hx=>by subst hx; exact S1⟩ (fun j u _ _ hu=>Cq.all (fun c=>Cq.keep hb) hu)
     ·intro listed A0 W hA hD hno hr K' hK
      have hsl:=hA.size
      simp at hsl
      have e19:A0.tmps[19]?.getD undef=.pointer (some ⟨g,0,none⟩):=FreeD.slot_is (hA.val 0 _ rfl (hr ⟨0,.data⟩ (by simp) rfl))
      simp [go_sem,e19]
      exact hK _ _ (hA.c.still (by omega)) rfl (fun j u _ _ hu=>hu)
     ·intro listed A0 W hA hD hno hr K' hK
      have hsl:=hA.size
      simp at hsl
      have e32:A0.tmps[32]?.getD undef=.pointer (some ⟨g,0,none⟩):=FreeD.slot_is (hA.val 13 _ rfl (hr ⟨13,.data⟩ (by simp) rfl))
      simp [go_sem,e32]
      exact hK _ _ (hA.c.still (by omega)) rfl (fun j u _ _ hu=>hu)
     ·intro listed A0 W hA hD hno hr K' hK
      have hsl:=hA.size
      simp at hsl
      have e33:A0.tmps[33]?.getD undef=.pointer (some ⟨g,1,none⟩):=FreeD.slot_is (hA.val 14 _ rfl (hr ⟨14,.data⟩ (by simp) rfl))
      obtain ⟨A1,m1,p1,B1,k2,q1,C1,n1,r2,W1,e31,T1,F1,S1⟩:=tab_slot (hA.val 12 _ rfl (hr ⟨12,.data⟩ (by simp) rfl))
      have hx:listed.getD 15 false=false:=FreeD.not_listed (by omega) hno
      have hw:=hA.c.bef hx
      refine wp_store_pt (.tmp 33) (.tmp 31) rfl g (by simpa [Act.eval] using e33) (by simpa [Act.eval] using e31) (hB2.later hw) ?_
      exact hK undef _ (FreeD.Last.last (by omega) (x_tab h2 hj2 hw T1 hok1 F1)) trivial (fun j u _ _ hu=>Cq.all (fun c=>Cq.row _) hu)
    ·intro A0 W5 hA
     have h5:=hA.c.aft rfl
     have hde:=hA.defers
     clear hA
     rw [set_set] at h5
     have H5:=Lib.hid h5
     clear h5 h2
     obtain ⟨tm,de⟩:=A0
     simp only at hde
     subst hde
     go_wp2_with fail
     go_end0
     exact (.inl (by rw [HE0.out]; exact ⟨rfl,rfl,H5.out⟩))
end Go.Proofs.YtcnohlgigmmefaaGreat.Lg
