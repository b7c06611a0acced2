/- A part. -/
import Derived.Test.YtcnohlgigmmefaaGreatPLhK
namespace Go.Proofs.YtcnohlgigmmefaaGreat.Lg
open Go.RowKit Go.Lib
open Tb (Tab TIn Sl okP csT lastN nth Fresh)
open Dk (St Only Grew)
set_option linter.unusedVariables false
set_option maxRecDepth 100000
section
variable {W0 W w:World} {items:List Dk.Item} {k j l g d:Nat} {s:St} {t:Tab} {ls ep gn:Int} {Kq:Kp}
theorem app1_any (h:Dk.Sep W0 w items) (hk:items[k]? = some (Dk.diskI d s)) (hj:items[j]? = some (logX 156 g d t ls ep gn Kq)) (hkj:k≠j) {b2 b3 b4 b6:Nat} (l0 e0 K V D:Int) (I X:ByteArray) (hl:items[l]? = some (locI [(b2,62,#[.pointer (some ⟨g,0,none⟩)]),(b3,97,#[.int .u64 l0,.int .u32 e0,.int .i64 K,.int .u64 V,.int .u64 D,.string I,.string X]),(b4,93,#[.int .i64 0,.int .i64 0]),(b6,93,#[.int .i64 0,.int .i64 0])])) (hlk:l≠k) (hlj:l≠j) (h26:b2≠b6) (h36:b3≠b6) (h46:b4≠b6)
 (hls:1≤ls∧ls+2<18446744073709551616) (hep:0≤ep∧ep<4294967296) (hV:0≤V∧V<18446744073709551616) (hD:0≤D∧D<18446744073709551616) (hfit:FitS t s) (hpl:s.pend.length+2<1048576) (hroom:0<Tb.roomT t) (hR0:Rc.okR ⟨ls,ep,K,V,D,I.data.toList,X.data.toList⟩=true) :
 Calls Tryz.prog 88 #[.pointer (some ⟨b2,0,none⟩),.pointer (some ⟨b3,0,none⟩),.pointer (some ⟨b6,0,none⟩)] w fun e w' =>
  ((addS t s ls ep K V D I X).2.2.2.2.2=0∧e=.returned (.tuple #[])∧Dk.Sep W0 w' (((items.set k (Dk.diskI d (addS t s ls ep K V D I X).1)).set j (logX 156 g d (addS t s ls ep K V D I X).2.1 (addS t s ls ep K V D I X).2.2.1 ep gn Kq)).set l (locI [(b2,62,#[.pointer (some ⟨g,0,none⟩)]),(b3,97,#[.int .u64 l0,.int .u32 e0,.int .i64 K,.int .u64 V,.int .u64 D,.string I,.string X]),(b4,93,#[.int .i64 0,.int .i64 0]),(b6,93,#[.int .i64 (addS t s ls ep K V D I X).2.2.2.1,.int .i64 (addS t s ls ep K V D I X).2.2.2.2.1])]))) ∨
  ((addS t s ls ep K V D I X).2.2.2.2.2≠0∧e=.panicked (pan (addS t s ls ep K V D I X).2.2.2.2.2)∧∃ t' ls',Dk.Sep W0 w' ((items.set k (Dk.diskI d (addS t s ls ep K V D I X).1)).set j (logX 156 g d t' ls' ep gn Kq))):=by
 have N2:Tb.Blk w b2 62 #[.pointer (some ⟨g,0,none⟩)]:=loc_at h hl _ (List.mem_cons_self ..)
 have N3:Tb.Blk w b3 97 #[.int .u64 l0,.int .u32 e0,.int .i64 K,.int .u64 V,.int .u64 D,.string I,.string X]:=loc_at h hl _ (List.mem_cons_of_mem _ (List.mem_cons_self ..))
 have c2:w.cell? ⟨b2,0,none⟩=some (.pointer (some ⟨g,0,none⟩)):=N2.cell 0
 have HC:=Lib.hid (add_any h hk hj hkj l0 e0 K V D I X hls hep hV hD hfit hpl hroom hR0)
 obtain ⟨R,ER⟩:∃ z,(addS t s ls ep K V D I X)=z:=⟨_,rfl⟩
 rw [ER] at HC ⊢
 clear h hR0 ER hls hep hV hD hfit hpl hroom N2
 go_enter Tryz.func88,Tryz.ntmps88
 go_wp2_with (with_reducible refine load_rp rfl (.tmp 1) rfl b3 rfl N3 ?_)
 refine HC.out.mono ?_
 rintro e' w2 (⟨hy,rfl,h2⟩ | ⟨hy,rfl,t',ls',h2⟩)
 rotate_left
 ·exact ⟨rfl,.inr ⟨hy,rfl,t',ls',h2⟩⟩
 have hl2:((items.set k (Dk.diskI d R.1)).set j (logX 156 g d R.2.1 R.2.2.1 ep gn Kq))[l]? = some (locI [(b2,62,#[.pointer (some ⟨g,0,none⟩)]),(b3,97,#[.int .u64 l0,.int .u32 e0,.int .i64 K,.int .u64 V,.int .u64 D,.string I,.string X]),(b4,93,#[.int .i64 0,.int .i64 0]),(b6,93,#[.int .i64 0,.int .i64 0])]):=get_set (get_set hl hlk.symm) hlj.symm
 have N2:Tb.Blk w2 b2 62 #[.pointer (some ⟨g,0,none⟩)]:=loc_at h2 hl2 _ (List.mem_cons_self ..)
 have N3:Tb.Blk w2 b3 97 #[.int .u64 l0,.int .u32 e0,.int .i64 K,.int .u64 V,.int .u64 D,.string I,.string X]:=loc_at h2 hl2 _ (List.mem_cons_of_mem _ (List.mem_cons_self ..))
 have N4:Tb.Blk w2 b4 93 #[.int .i64 0,.int .i64 0]:=loc_at h2 hl2 _ (List.mem_cons_of_mem _ (List.mem_cons_of_mem _ (List.mem_cons_self ..)))
 have N6:Tb.Blk w2 b6 93 #[.int .i64 0,.int .i64 0]:=loc_at h2 hl2 _ (List.mem_cons_of_mem _ (List.mem_cons_of_mem _ (List.mem_cons_of_mem _ (List.mem_cons_self ..))))
 have h3:=loc_row (l':=[(b2,62,#[.pointer (some ⟨g,0,none⟩)]),(b3,97,#[.int .u64 l0,.int .u32 e0,.int .i64 K,.int .u64 V,.int .u64 D,.string I,.string X]),(b4,93,#[.int .i64 0,.int .i64 0]),(b6,93,#[.int .i64 R.2.2.2.1,.int .i64 R.2.2.2.2.1])]) h2 hl2 b6 ⟨_,List.mem_cons_of_mem _ (List.mem_cons_of_mem _ (List.mem_cons_of_mem _ (List.mem_cons_self ..))),rfl⟩ #[.int .i64 R.2.2.2.1,.int .i64 R.2.2.2.2.1] (fun x hx=>by
  rcases List.mem_cons.1 hx with rfl|hx
  ·exact N2.far h26.symm _
  ·rcases List.mem_cons.1 hx with rfl|hx
   ·exact N3.far h36.symm _
   ·rcases List.mem_cons.1 hx with rfl|hx
    ·exact N4.far h46.symm _
    ·rcases List.mem_cons.1 hx with rfl|hx
     ·exact N6.row _
     ·cases hx) (fun x hx=>by
  rcases List.mem_cons.1 hx with rfl|hx
  ·exact ⟨_,List.mem_cons_self ..,rfl⟩
  ·rcases List.mem_cons.1 hx with rfl|hx
   ·exact ⟨_,List.mem_cons_of_mem _ (List.mem_cons_self ..),rfl⟩
   ·rcases List.mem_cons.1 hx with rfl|hx
    ·exact ⟨_,List.mem_cons_of_mem _ (List.mem_cons_of_mem _ (List.mem_cons_self ..)),rfl⟩
    ·rcases List.mem_cons.1 hx with rfl|hx
     ·exact ⟨_,List.mem_cons_of_mem _ (List.mem_cons_of_mem _ (List.mem_cons_of_mem _ (List.mem_cons_self ..))),rfl⟩
     ·cases hx)
 have HY:=Lib.hid (And.intro hy h3)
 clear hy h2 h3 N2 N3 N4 HC c2
 go_wp2_with (with_reducible refine store_loc rfl (.tmp 2) (.tmp 5) rfl b6 rfl rfl N6 ?_)
 go_end0
 exact .inl ⟨HY.out.1,rfl,HY.out.2⟩
set_option maxHeartbeats 4000000 in
theorem papp_any (h:Dk.Sep W w items) (hk:items[k]? = some (Dk.diskI d s)) (hj:items[j]? = some (logI 156 g d t ls ep gn)) (hkj:k≠j) (l0 e0 K V D:Int) (I X:ByteArray)
 (hls:1≤ls∧ls+2<18446744073709551616) (hep:0≤ep∧ep<4294967296) (hV:0≤V∧V<18446744073709551616) (hD:0≤D∧D<18446744073709551616) (hI:I.size≤maxLen) (hX:X.size≤maxLen) (hfit:FitS t s) (hpl:s.pend.length+2<1048576) :
 Calls Tryz.prog 37 #[.pointer (some ⟨g,0,none⟩),.agg #[.int .u64 l0,.int .u32 e0,.int .i64 K,.int .u64 V,.int .u64 D,.string I,.string X]] w fun e w' =>
  e=.returned (.tuple #[.agg #[.int .i64 (appS t s ls ep K V D I X).2.2.2.1,.int .i64 (appS t s ls ep K V D I X).2.2.2.2.1],.int .i64 (appS t s ls ep K V D I X).2.2.2.2.2]) ∧
  ∃ it,Dk.Sep W w' ((items.set k (Dk.diskI d (appS t s ls ep K V D I X).1)).set j it)∧((appS t s ls ep K V D I X).2.2.2.2.2≠9→it=logI 156 g d (appS t s ls ep K V D I X).2.1 (appS t s ls ep K V D I X).2.2.1 ep gn):=by
 have hmf:∀ (fn:Fn) (first cap:Array Value) (w:World),(Instr.makeFunc fn first cap).run Tryz.prog w=.ok (.func fn first cap) w:=fun _ _ _ _=>rfl
 have hvL:=Tryz.zeroValue93
 have HOK:=log_ok h hj
 have B0:Below w.heap.size w (((w.alloc (.cells #[.pointer (some ⟨g,0,none⟩)] 62)).alloc (.cells #[.int .u64 l0,.int .u32 e0,.int .i64 K,.int .u64 V,.int .u64 D,.string I,.string X] 97)).alloc (.cells #[.int .i64 0,.int .i64 0] 93)):=NewC.geTrans (NewC.geTrans (NewC.below1 _ _) (NewC.below1 _ _)) (NewC.below1 _ _)
 have N2:Tb.Blk (((w.alloc (.cells #[.pointer (some ⟨g,0,none⟩)] 62)).alloc (.cells #[.int .u64 l0,.int .u32 e0,.int .i64 K,.int .u64 V,.int .u64 D,.string I,.string X] 97)).alloc (.cells #[.int .i64 0,.int .i64 0] 93)) w.heap.size 62 #[.pointer (some ⟨g,0,none⟩)]:=((Tb.Blk.new w _ _).later (NewC.below1 _ _)).later (NewC.below1 _ _)
 have N3:Tb.Blk (((w.alloc (.cells #[.pointer (some ⟨g,0,none⟩)] 62)).alloc (.cells #[.int .u64 l0,.int .u32 e0,.int .i64 K,.int .u64 V,.int .u64 D,.string I,.string X] 97)).alloc (.cells #[.int .i64 0,.int .i64 0] 93)) (w.heap.size+1) 97 #[.int .u64 l0,.int .u32 e0,.int .i64 K,.int .u64 V,.int .u64 D,.string I,.string X]:=(Tb.Blk.at_ _ _ _ (by simp)).later (NewC.below1 _ _)
 have N4:Tb.Blk (((w.alloc (.cells #[.pointer (some ⟨g,0,none⟩)] 62)).alloc (.cells #[.int .u64 l0,.int .u32 e0,.int .i64 K,.int .u64 V,.int .u64 D,.string I,.string X] 97)).alloc (.cells #[.int .i64 0,.int .i64 0] 93)) (w.heap.size+1+1) 93 #[.int .i64 0,.int .i64 0]:=Tb.Blk.at_ _ _ _ (by simp)
 have h1:=h.later B0
 have HA:=Lib.hid (appS_eq t s ls ep K V D I X)
 obtain ⟨RA,ERA⟩:∃ z,appS t s ls ep K V D I X=z:=⟨_,rfl⟩
 rw [ERA] at HA ⊢
 have HKP:Hid (∀ w',Below w.heap.size w w'→Dk.Sep W w' ((items.set k (Dk.diskI d s)).set j (logI 156 g d t ls ep gn))):=Lib.hid (fun w' hb=>by rw [set_same hk,set_same hj]; exact h.later hb)
 have HH:=Lib.hid h
 clear h ERA
 obtain ⟨A,m,p,B,k1,q,C,n,r1,hB,ht,_,hok⟩:=log_at h1 hj
 obtain ⟨TK,ETK⟩:∃ z,(decide (K≠3) && Rc.okR ⟨ls,e0,K,V,D,I.data.toList,X.data.toList⟩)=z:=⟨_,rfl⟩
 have HTK:=Lib.hid (takes_is hB ht hok l0 e0 K V D I X hls hI hX ETK)
 have HE:Hid ((decide (K≠3) && Rc.okR ⟨ls,ep,K,V,D,I.data.toList,X.data.toList⟩)=TK):=Lib.hid (by rw [← ETK,okR_any (l:=ls) (l':=ls) (e:=e0) (e':=ep) (by omega) (by omega)])
 have c2:(((w.alloc (.cells #[.pointer (some ⟨g,0,none⟩)] 62)).alloc (.cells #[.int .u64 l0,.int .u32 e0,.int .i64 K,.int .u64 V,.int .u64 D,.string I,.string X] 97)).alloc (.cells #[.int .i64 0,.int .i64 0] 93)).cell? ⟨w.heap.size,0,none⟩=some (.pointer (some ⟨g,0,none⟩)):=N2.cell 0
 have HB0:=Lib.hid B0
 have HHY:=Lib.hid (And.intro hls (And.intro hep (And.intro hV (And.intro hD (And.intro hfit hpl)))))
 clear h1 ETK B0 hls hep hV hD hfit hpl hI hX
 go_enter Tryz.func37,Tryz.ntmps37
 go_upto_region 1 with fail
 generalize (((w.alloc (.cells #[.pointer (some ⟨g,0,none⟩)] 62)).alloc (.cells #[.int .u64 l0,.int .u32 e0,.int .i64 K,.int .u64 V,.int .u64 D,.string I,.string X] 97)).alloc (.cells #[.int .i64 0,.int .i64 0] 93))=w1 at *
 go_wp2_with (with_reducible refine load_rp rfl (.tmp 3) rfl (w.heap.size+1) rfl N3 ?_)
 refine HTK.out.mono ?_
 rintro e' w2 ⟨rfl,hb2⟩
 replace N2:=N2.later hb2
 replace N3:=N3.later hb2
 replace N4:=N4.later hb2
 replace hB:=hB.later hb2
 replace ht:=ht.later hb2
 replace HB0:=Lib.hid (HB0.out.trans (hb2.mono HB0.out.size))
 clear HTK hb2 c2
 cases TK with
 | false =>
   have hA:RA=(s,t,ls,0,0,5):=HA.out.trans (if_pos (by
    have:=HE.out
    rw [Bool.and_eq_false_iff] at this
    rcases this with h|h
    ·exact .inl (by simpa using h)
    ·exact .inr h))
   have HA5:=Lib.hid hA
   clear hA HA HE N2 N3 hB ht
   go_wp2_with (with_reducible refine store_loc rfl (.tmp 4) (.tmp 12) rfl (w.heap.size+1+1) rfl rfl N4 ?_)
   refine bodyPost_ret (res_loc rfl _ _ (w.heap.size+1+1) rfl rfl (N4.row _)) rfl ?_
   rw [HA5.out]
   exact ⟨rfl,_,HKP.out _ (Tb.below_row HB0.out (by omega) _),fun _=>rfl⟩
 | true =>
   have hE:=HE.out
   rw [Bool.and_eq_true] at hE
   have hK3:K≠3:=by simpa using hE.1
   have hR0:=hE.2
   replace HA:=Lib.hid (HA.out.trans (if_neg (by rw [hR0]; simp [hK3])))
   obtain ⟨rm,ERM⟩:∃ z,Tb.roomT t=z:=⟨_,rfl⟩
   have HRM:=Lib.hid (Tb.room_is t.sg t.st A m p B k1 q C n r1 t.o t.l t.f rm w2 ht hok ERM)
   have HEM:=Lib.hid ERM
   have c2:w2.cell? ⟨w.heap.size,0,none⟩=some (.pointer (some ⟨g,0,none⟩)):=N2.cell 0
   have HR0:=Lib.hid (And.intro hK3 hR0)
   clear hE hK3 hR0 HE ht ERM
   go_wp2_with (with_reducible refine load_pt rfl (.tmp 15) rfl g rfl hB ?_)
   refine HRM.out.mono ?_
   rintro e' w3 ⟨rfl,hb3⟩
   replace N2:=N2.later hb3
   replace N3:=N3.later hb3
   replace N4:=N4.later hb3
   replace HB0:=Lib.hid (HB0.out.trans (hb3.mono HB0.out.size))
   clear HRM hb3 c2 hB
   by_cases hr:rm=0
   ·have HA9:=Lib.hid (HA.out.trans (if_pos (by rw [HEM.out]; exact hr)))
    have q0:(rm == 0)=true:=by simp [hr]
    clear HA hr N2 N3
    go_wp2_with (with_reducible refine store_loc rfl (.tmp 4) (.tmp 19) rfl (w.heap.size+1+1) rfl rfl N4 ?_)
    refine bodyPost_ret (res_loc rfl _ _ (w.heap.size+1+1) rfl rfl (N4.row _)) rfl ?_
    rw [HA9.out]
    exact ⟨rfl,_,HKP.out _ (Tb.below_row HB0.out (by omega) _),fun _=>rfl⟩
   have HA0:=Lib.hid (HA.out.trans (if_neg (by rw [HEM.out]; exact hr)))
   have hroom:0<Tb.roomT t:=by
    have h1:=(Tb.ok_bounds HOK).r
    have h2:=HEM.out
    omega
   have HRO:=Lib.hid hroom
   have q0:(rm == 0)=false:=by simpa using hr
   clear HA hr hroom
   have N6:Tb.Blk (w3.alloc (.cells #[.int .i64 0,.int .i64 0] 93)) w3.heap.size 93 #[.int .i64 0,.int .i64 0]:=Tb.Blk.new w3 _ _
   have hb6:=Tb.below1 w3 (.cells #[.int .i64 0,.int .i64 0] 93)
   have h46:w.heap.size+1+1<w3.heap.size:=N4.lt
   replace N2:=N2.later hb6
   replace N3:=N3.later hb6
   replace N4:=N4.later hb6
   have B6:=HB0.out.trans (hb6.mono HB0.out.size)
   clear HB0 hb6
   go_upto_region 6 with fail
   change Code.wp _ _ _ _ (w3.alloc (.cells #[.int .i64 0,.int .i64 0] 93))
   generalize w3.alloc (.cells #[.int .i64 0,.int .i64 0] 93)=w4 at *
   generalize w3.heap.size=b6 at *
   have h4:Dk.Sep W w4 (items++[locI [(w.heap.size,62,#[.pointer (some ⟨g,0,none⟩)]),((w.heap.size+1),97,#[.int .u64 l0,.int .u32 e0,.int .i64 K,.int .u64 V,.int .u64 D,.string I,.string X]),((w.heap.size+1+1),93,#[.int .i64 0,.int .i64 0]),(b6,93,#[.int .i64 0,.int .i64 0])]]):=loc_new HH.out B6 (fun x hx=>by
    rcases List.mem_cons.1 hx with rfl|hx
    ·exact N2
    ·rcases List.mem_cons.1 hx with rfl|hx
     ·exact N3
     ·rcases List.mem_cons.1 hx with rfl|hx
      ·exact N4
      ·rcases List.mem_cons.1 hx with rfl|hx
       ·exact N6
       ·cases hx) (fun x hx=>by
    rcases List.mem_cons.1 hx with rfl|hx
    ·exact Nat.le_refl _
    ·rcases List.mem_cons.1 hx with rfl|hx
     ·exact Nat.le_succ _
     ·rcases List.mem_cons.1 hx with rfl|hx
      ·show w.heap.size≤w.heap.size+1+1; omega
      ·rcases List.mem_cons.1 hx with rfl|hx
       ·show w.heap.size≤b6; omega
       ·cases hx)
   have hki:=(List.getElem?_eq_some_iff.1 hk).1
   have hji:=(List.getElem?_eq_some_iff.1 hj).1
   obtain ⟨hls,hep,hV,hD,hfit,hpl⟩:=HHY.out
   have HC:=Lib.hid (whole_p h4 (app_at hk) (app_at hj) hkj app_last (by omega) (by omega) (s1:=(addS t s ls ep K V D I X).1) (t1:=(addS t s ls ep K V D I X).2.1) (ls1:=(addS t s ls ep K V D I X).2.2.1) (gn1:=gn) (y:=(addS t s ls ep K V D I X).2.2.2.2.2) (it1:=locI [(w.heap.size,62,#[.pointer (some ⟨g,0,none⟩)]),((w.heap.size+1),97,#[.int .u64 l0,.int .u32 e0,.int .i64 K,.int .u64 V,.int .u64 D,.string I,.string X]),((w.heap.size+1+1),93,#[.int .i64 0,.int .i64 0]),(b6,93,#[.int .i64 (addS t s ls ep K V D I X).2.2.2.1,.int .i64 (addS t s ls ep K V D I X).2.2.2.2.1])]) 88 #[] #[.pointer (some ⟨w.heap.size,0,none⟩),.pointer (some ⟨w.heap.size+1,0,none⟩),.pointer (some ⟨b6,0,none⟩)] (fun _=>rfl)
    (fun Kq w1 A hA hkA hjA hlA=>(app1_any hA hkA hjA hkj l0 e0 K V D I X hlA (by omega) (by omega) (by omega) (by omega) (by omega) hls hep hV hD hfit hpl HRO.out HR0.out.2).mono fun e w' hw=>by
     rcases hw with ⟨hy,he,h2⟩ | ⟨hy,he,t9,l9,h2⟩
     ·exact .inl ⟨hy,he,h2⟩
     ·exact .inr ⟨hy,he,t9,l9,gn,h2⟩))
   have hq0:=add_code t s ls ep K V D I X
   have hl0:(addS t s ls ep K V D I X).2.2.2.2.2≠0→(addS t s ls ep K V D I X).2.2.2.1=0∧(addS t s ls ep K V D I X).2.2.2.2.1=0:=by
    unfold addS
    split
    ·intro _; exact ⟨rfl,rfl⟩
    ·unfold appS.putS
     split
     ·intro _; exact ⟨rfl,rfl⟩
     ·simp
   obtain ⟨R,ER⟩:∃ z,(addS t s ls ep K V D I X)=z:=⟨_,rfl⟩
   rw [ER] at HC HA0 hq0 hl0
   obtain rfl:RA=R:=HA0.out
   have HQ:=Lib.hid (And.intro hq0 hl0)
   have c2:w4.cell? ⟨w.heap.size,0,none⟩=some (.pointer (some ⟨g,0,none⟩)):=N2.cell 0
   clear hls hep hV hD hfit hpl hq0 hl0 h4 N2 N3 N4 N6 HHY ER HA0 B6
   go_wp2_with fail
   refine HC.out.mono ?_
   rintro e' w5 ⟨rfl,hz,hn⟩
   have HZ:=Lib.hid hz
   have HN:=Lib.hid hn
   clear hz hn HC c2
   by_cases h0:RA.2.2.2.2.2=0
   ·have h5:=HZ.out h0
    rw [app_set hk] at h5
    have e1:items.length=(items.set k (Dk.diskI d RA.1)).length:=by simp
    rw [e1,app_set_last,app_set (get_set hj hkj)] at h5
    have M4:Tb.Blk w5 (w.heap.size+1+1) 93 #[.int .i64 0,.int .i64 0]:=loc_at h5 app_last _ (List.mem_cons_of_mem _ (List.mem_cons_of_mem _ (List.mem_cons_self ..)))
    have M6:Tb.Blk w5 b6 93 #[.int .i64 RA.2.2.2.1,.int .i64 RA.2.2.2.2.1]:=loc_at h5 app_last _ (List.mem_cons_of_mem _ (List.mem_cons_of_mem _ (List.mem_cons_of_mem _ (List.mem_cons_self ..))))
    have h6:=loc_drop (loc_row (l':=[]) h5 app_last (w.heap.size+1+1) ⟨_,List.mem_cons_of_mem _ (List.mem_cons_of_mem _ (List.mem_cons_self ..)),rfl⟩ #[.int .i64 RA.2.2.2.1,.int .i64 RA.2.2.2.2.1] (fun x hx=>by cases hx) (fun x hx=>by cases hx) |> fun h=>by rw [app_set_last] at h; exact h)
    have H6:=Lib.hid h6
    clear h5 h6 HZ HN h0
    go_wp2_with (first
     | (with_reducible refine load_loc rfl (.tmp 6) rfl b6 rfl M6 ?_)
     | (with_reducible refine store_loc rfl (.tmp 4) (.tmp 23) rfl (w.heap.size+1+1) rfl rfl M4 ?_))
    exact bodyPost_ret (res_loc rfl _ _ (w.heap.size+1+1) rfl rfl (M4.row _)) rfl ⟨rfl,_,H6.out,fun _=>rfl⟩
   ·have h5:=HN.out h0
    rw [app_set hk,app_set (get_set hj hkj)] at h5
    have M4:Tb.Blk w5 (w.heap.size+1+1) 93 #[.int .i64 0,.int .i64 0]:=loc_at h5 app_last _ (List.mem_cons_of_mem _ (List.mem_cons_of_mem _ (List.mem_cons_self ..)))
    have M6:Tb.Blk w5 b6 93 #[.int .i64 0,.int .i64 0]:=loc_at h5 app_last _ (List.mem_cons_of_mem _ (List.mem_cons_of_mem _ (List.mem_cons_of_mem _ (List.mem_cons_self ..))))
    have h6:=loc_drop (loc_row (l':=[]) h5 app_last (w.heap.size+1+1) ⟨_,List.mem_cons_of_mem _ (List.mem_cons_of_mem _ (List.mem_cons_self ..)),rfl⟩ #[.int .i64 0,.int .i64 0] (fun x hx=>by cases hx) (fun x hx=>by cases hx) |> fun h=>by rw [app_set_last] at h; exact h)
    have H6:=Lib.hid (And.intro h0 h6)
    clear h5 h6 HZ HN h0
    go_wp2_with (first
     | (with_reducible refine load_loc rfl (.tmp 6) rfl b6 rfl M6 ?_)
     | (with_reducible refine store_loc rfl (.tmp 4) (.tmp 23) rfl (w.heap.size+1+1) rfl rfl M4 ?_))
    refine bodyPost_ret (res_loc rfl _ _ (w.heap.size+1+1) rfl rfl (M4.row _)) rfl ⟨by rw [(HQ.out.2 H6.out.1).1,(HQ.out.2 H6.out.1).2]; rfl,_,H6.out.2,fun h9=>?_⟩
    rw [(HQ.out.1 H6.out.1 h9).1,(HQ.out.1 H6.out.1 h9).2]
end
end Go.Proofs.YtcnohlgigmmefaaGreat.Lg
