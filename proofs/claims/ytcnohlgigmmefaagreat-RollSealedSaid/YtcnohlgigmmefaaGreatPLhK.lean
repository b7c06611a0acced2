/- A part. -/
import Derived.Test.YtcnohlgigmmefaaGreatPLhJ
namespace Go.Proofs.YtcnohlgigmmefaaGreat.Lg
open Go.RowKit Go.Lib
open Tb (Tab TIn Sl okP csT lastN nth Fresh)
open Dk (St Only Grew)
set_option linter.unusedVariables false
set_option maxRecDepth 100000
theorem loc_nil {W w:World} {items:List Dk.Item} (h:Dk.Sep W w items):Dk.Sep W w (items++[locI []]):=loc_new h (Below.refl _ _) (fun x hx=>by cases hx) (fun x hx=>by cases hx)
section
variable {W w:World} {items:List Dk.Item} {k j l g d:Nat} {s s1:St} {t t1:Tab} {ls ep gn ls1 gn1 y:Int} {it0 it1:Dk.Item}
theorem whole_p (h:Dk.Sep W w items) (hk:items[k]? = some (Dk.diskI d s)) (hj:items[j]? = some (logI 156 g d t ls ep gn)) (hkj:k≠j) (hl:items[l]? = some it0) (hlk:l≠k) (hlj:l≠j) (f:FuncId) (fst cap:Array Value)
 (hcf:∀ w,(callFunc f (fst++cap)).run Tryz.prog w=.ok (.enter f (fst++cap)) w)
 (hwork:∀ (Kq:Kp) (w1:World) (A:List Dk.Item),Dk.Sep W w1 A→A[k]? = some (Dk.diskI d s)→A[j]? = some (logX 156 g d t ls ep gn Kq)→A[l]? = some it0→Calls Tryz.prog f (fst++cap) w1 fun e w' =>
  (y=0∧e=.returned (.tuple #[])∧Dk.Sep W w' (((A.set k (Dk.diskI d s1)).set j (logX 156 g d t1 ls1 ep gn1 Kq)).set l it1)) ∨
  (y≠0∧e=.panicked (pan y)∧∃ t' ls' gn',Dk.Sep W w' ((A.set k (Dk.diskI d s1)).set j (logX 156 g d t' ls' ep gn' Kq)))) :
 Calls Tryz.prog 87 #[.pointer (some ⟨g,0,none⟩),.func (.func f) fst cap] w fun e w'=>e=.returned (.int .i64 y)∧(y=0→Dk.Sep W w' (((items.set k (Dk.diskI d s1)).set l it1).set j (logI 156 g d t1 ls1 ep gn1)))∧(y≠0→Dk.Sep W w' ((items.set k (Dk.diskI d s1)).set j (logI 156 g d t ls ep gn))):=by
 refine whole_any h hj (items1:=(items.set k (Dk.diskI d s1)).set l it1) (items2:=items.set k (Dk.diskI d s1)) (get_set (get_set hj hkj) hlj) (get_set hj hkj) f fst cap hcf (fun Kq w1 it h1=>?_)
 have hkA:(items.set j (logX 156 g d t ls ep gn Kq))[k]? = some (Dk.diskI d s):=get_set hk hkj.symm
 have hjA:(items.set j (logX 156 g d t ls ep gn Kq))[j]? = some (logX 156 g d t ls ep gn Kq):=get_self hj
 have hlA:(items.set j (logX 156 g d t ls ep gn Kq))[l]? = some it0:=get_set hl hlj.symm
 refine (hwork Kq w1 _ h1 (app_at hkA) (app_at hjA) (app_at hlA)).mono ?_
 rintro e w' (⟨hy,he,h2⟩ | ⟨hy,he,t',ls',gn',h2⟩)
 ·refine .inl ⟨hy,he,?_⟩
  rw [app_set hkA,app_set (get_set hjA hkj),app_set (get_set (get_set hlA hlk.symm) hlj.symm),set3 hkj] at h2
  rw [List.set_comm _ _ hlj.symm] at h2
  exact h2
 ·refine .inr ⟨hy,he,t',ls',gn',?_⟩
  rw [app_set hkA,app_set (get_set hjA hkj),set3 hkj] at h2
  exact h2
theorem told_of {it:Dk.Item} {w' : World} {A:List Dk.Item} (hz:y=0→Dk.Sep W w' (A.set j (logI 156 g d t1 ls1 ep gn1))) (hn:y≠0→Dk.Sep W w' (A.set j (logI 156 g d t ls ep gn))) (hq:y≠0→y≠9→t1=t∧ls1=ls∧gn1=gn) :
 ∃ it,Dk.Sep W w' (A.set j it)∧(y≠9→it=logI 156 g d t1 ls1 ep gn1):=by
 by_cases h0:y=0
 ·exact ⟨_,hz h0,fun _=>rfl⟩
 ·refine ⟨_,hn h0,fun h9=>?_⟩
  obtain ⟨e1,e2,e3⟩:=hq h0 h9
  rw [e1,e2,e3]
theorem chk_code (s:St) (gn:Int) (S:ByteArray):(chkS s gn S).2.2≠0→(chkS s gn S).2.2≠9→False:=by
 unfold chkS
 split
 ·simp
 ·split
  ·simp
  ·split <;> simp
theorem seal_code (t:Tab) (s:St) (ls:Int) (S:ByteArray):(sealS t s ls S).2.2.2≠0→(sealS t s ls S).2.2.2≠9→(sealS t s ls S).2.1=t∧(sealS t s ls S).2.2.1=ls:=by
 unfold sealS
 split
 ·intro _ _; exact ⟨rfl,rfl⟩
 ·split <;> simp
theorem add_code (t:Tab) (s:St) (ls ep K V D:Int) (I X:ByteArray):(addS t s ls ep K V D I X).2.2.2.2.2≠0→(addS t s ls ep K V D I X).2.2.2.2.2≠9→(addS t s ls ep K V D I X).2.1=t∧(addS t s ls ep K V D I X).2.2.1=ls:=by
 unfold addS
 split
 ·intro _ h9
  unfold sealIf at h9 ⊢
  split
  ·rename_i h1 h2
   rw [if_pos h2] at h9
   refine seal_code t s ls _ ?_ h9
   unfold sealIf at h1
   rw [if_pos h2] at h1
   exact h1
  ·exact ⟨rfl,rfl⟩
 ·unfold appS.putS
  split <;> simp
set_option maxHeartbeats 2000000 in
theorem pchk_any (h:Dk.Sep W w items) (hk:items[k]? = some (Dk.diskI d s)) (hj:items[j]? = some (logI 156 g d t ls ep gn)) (hkj:k≠j) (ver:Int) (hv:0≤ver∧ver<18446744073709551616) (hls:1≤ls∧ls<18446744073709551616) (hep:0≤ep∧ep<4294967296) (hgn:0≤gn∧gn<9223372036854775807) (hsz:2≤s.size) (hpl:s.pend.length<1048576) (S:ByteArray) (hS:Cp.secL ⟨gn+1,ep,ls,ver,t.o,t.l⟩=S.data.toList) :
 Calls Tryz.prog 73 #[.pointer (some ⟨g,0,none⟩),.int .u64 ver] w fun e w' =>
  e=.returned (.int .i64 (chkS s gn S).2.2)∧∃ it,Dk.Sep W w' ((items.set k (Dk.diskI d (chkS s gn S).1)).set j it)∧((chkS s gn S).2.2≠9→it=logI 156 g d t ls ep (chkS s gn S).2.1):=by
 have hmf:∀ (fn:Fn) (first cap:Array Value) (w:World),(Instr.makeFunc fn first cap).run Tryz.prog w=.ok (.func fn first cap) w:=fun _ _ _ _=>rfl
 have B0:Below w.heap.size w ((w.alloc (.cells #[.pointer (some ⟨g,0,none⟩)] 62)).alloc (.cells #[.int .u64 ver] 38)):=NewC.geTrans (NewC.below1 _ _) (NewC.below1 _ _)
 have N2:Tb.Blk ((w.alloc (.cells #[.pointer (some ⟨g,0,none⟩)] 62)).alloc (.cells #[.int .u64 ver] 38)) w.heap.size 62 #[.pointer (some ⟨g,0,none⟩)]:=(Tb.Blk.new w _ _).later (NewC.below1 _ _)
 have N3:Tb.Blk ((w.alloc (.cells #[.pointer (some ⟨g,0,none⟩)] 62)).alloc (.cells #[.int .u64 ver] 38)) (w.heap.size+1) 38 #[.int .u64 ver]:=Tb.Blk.at_ _ _ _ (by simp)
 have h1:Dk.Sep W ((w.alloc (.cells #[.pointer (some ⟨g,0,none⟩)] 62)).alloc (.cells #[.int .u64 ver] 38)) (items++[locI [(w.heap.size,62,#[.pointer (some ⟨g,0,none⟩)]),(w.heap.size+1,38,#[.int .u64 ver])]]):=loc_new h B0 (fun x hx=>by
  rcases List.mem_cons.1 hx with rfl|hx
  ·exact N2
  ·rcases List.mem_cons.1 hx with rfl|hx
   ·exact N3
   ·cases hx) (fun x hx=>by
  rcases List.mem_cons.1 hx with rfl|hx
  ·exact Nat.le_refl _
  ·rcases List.mem_cons.1 hx with rfl|hx
   ·exact Nat.le_succ _
   ·cases hx)
 have hki:=(List.getElem?_eq_some_iff.1 hk).1
 have hji:=(List.getElem?_eq_some_iff.1 hj).1
 have HC:=Lib.hid (whole_p h1 (app_at hk) (app_at hj) hkj app_last (by omega) (by omega) (s1:=(chkS s gn S).1) (t1:=t) (ls1:=ls) (gn1:=(chkS s gn S).2.1) (y:=(chkS s gn S).2.2) (it1:=locI [(w.heap.size,62,#[.pointer (some ⟨g,0,none⟩)]),(w.heap.size+1,38,#[.int .u64 ver])]) 124 #[] #[.pointer (some ⟨w.heap.size,0,none⟩),.pointer (some ⟨w.heap.size+1,0,none⟩)] (fun _=>rfl)
  (fun Kq w1 A hA hkA hjA hlA=>(chk1_any hA hkA hjA hkj ver hlA hv hls hep hgn hsz hpl S hS).mono fun e w' hw=>by
   rcases hw with ⟨hy,he,h2⟩ | ⟨hy,he,h2⟩
   ·exact .inl ⟨hy,he,by rw [set_same (get_set (get_set hlA (by omega)) (by omega))]; exact h2⟩
   ·exact .inr ⟨hy,he,t,ls,gn,by rw [set_same (get_set hjA hkj)]; exact h2⟩))
 obtain ⟨R,ER⟩:∃ z,chkS s gn S=z:=⟨_,rfl⟩
 have HQ:Hid (R.2.2≠0→R.2.2≠9→False):=Lib.hid (ER ▸ chk_code s gn S)
 rw [ER] at HC ⊢
 have c2:((w.alloc (.cells #[.pointer (some ⟨g,0,none⟩)] 62)).alloc (.cells #[.int .u64 ver] 38)).cell? ⟨w.heap.size,0,none⟩=some (.pointer (some ⟨g,0,none⟩)):=N2.cell 0
 clear h h1 N2 N3 B0 hS ER hv hls hep hgn hsz
 go_enter Tryz.func73,Tryz.ntmps73
 go_upto_region 1 with fail
 generalize ((w.alloc (.cells #[.pointer (some ⟨g,0,none⟩)] 62)).alloc (.cells #[.int .u64 ver] 38))=w1 at *
 go_wp2_with fail
 refine HC.out.mono ?_
 rintro e' w2 ⟨rfl,hz,hn⟩
 have HZ:=Lib.hid hz
 have HN:=Lib.hid hn
 clear hz hn HC c2
 go_wp2_with fail
 go_ret
 refine ⟨rfl,told_of (it:=locI []) (t:=t) (ls:=ls) (gn:=gn) (fun h0=>?_) (fun h0=>?_) (fun h0 h9=>(HQ.out h0 h9).elim)⟩
 ·have:=HZ.out h0
  rw [set_same (get_set app_last (Nat.ne_of_lt hki)),app_set hk,app_set (get_set hj hkj)] at this
  exact loc_drop this
 ·have:=HN.out h0
  rw [app_set hk,app_set (get_set hj hkj)] at this
  exact loc_drop this
set_option maxHeartbeats 2000000 in
theorem pdrop_any (h:Dk.Sep W w items) (hk:items[k]? = some (Dk.diskI d s)) (hj:items[j]? = some (logI 156 g d t ls ep gn)) (hkj:k≠j) (x ver:Int) (hv:0≤ver∧ver<18446744073709551616) (hls:1≤ls∧ls<18446744073709551616) (hep:0≤ep∧ep<4294967296) (hgn:0≤gn∧gn<9223372036854775807) (hsz:2≤s.size) (hpl:s.pend.length<1048576) (S:ByteArray) (hS:∀ t',Tb.dropT t x=some t'→Cp.secL ⟨gn+1,ep,ls,ver,t'.o,t'.l⟩=S.data.toList) :
 Calls Tryz.prog 99 #[.pointer (some ⟨g,0,none⟩),.int .i64 x,.int .u64 ver] w fun e w' =>
  e=.returned (.int .i64 (dropS t x s gn S).2.2.2)∧∃ it,Dk.Sep W w' ((items.set k (Dk.diskI d (dropS t x s gn S).1)).set j it)∧((dropS t x s gn S).2.2.2≠9→it=logI 156 g d (dropS t x s gn S).2.1 ls ep (dropS t x s gn S).2.2.1):=by
 have hmf:∀ (fn:Fn) (first cap:Array Value) (w:World),(Instr.makeFunc fn first cap).run Tryz.prog w=.ok (.func fn first cap) w:=fun _ _ _ _=>rfl
 have B0:Below w.heap.size w (((w.alloc (.cells #[.pointer (some ⟨g,0,none⟩)] 62)).alloc (.cells #[.int .i64 x] 3)).alloc (.cells #[.int .u64 ver] 38)):=NewC.geTrans (NewC.geTrans (NewC.below1 _ _) (NewC.below1 _ _)) (NewC.below1 _ _)
 have N2:Tb.Blk (((w.alloc (.cells #[.pointer (some ⟨g,0,none⟩)] 62)).alloc (.cells #[.int .i64 x] 3)).alloc (.cells #[.int .u64 ver] 38)) w.heap.size 62 #[.pointer (some ⟨g,0,none⟩)]:=((Tb.Blk.new w _ _).later (NewC.below1 _ _)).later (NewC.below1 _ _)
 have N3:Tb.Blk (((w.alloc (.cells #[.pointer (some ⟨g,0,none⟩)] 62)).alloc (.cells #[.int .i64 x] 3)).alloc (.cells #[.int .u64 ver] 38)) (w.heap.size+1) 3 #[.int .i64 x]:=(Tb.Blk.at_ _ _ _ (by simp)).later (NewC.below1 _ _)
 have N4:Tb.Blk (((w.alloc (.cells #[.pointer (some ⟨g,0,none⟩)] 62)).alloc (.cells #[.int .i64 x] 3)).alloc (.cells #[.int .u64 ver] 38)) (w.heap.size+1+1) 38 #[.int .u64 ver]:=Tb.Blk.at_ _ _ _ (by simp)
 have h1:Dk.Sep W (((w.alloc (.cells #[.pointer (some ⟨g,0,none⟩)] 62)).alloc (.cells #[.int .i64 x] 3)).alloc (.cells #[.int .u64 ver] 38)) (items++[locI [(w.heap.size,62,#[.pointer (some ⟨g,0,none⟩)]),(w.heap.size+1,3,#[.int .i64 x]),(w.heap.size+1+1,38,#[.int .u64 ver])]]):=loc_new h B0 (fun x hx=>by
  rcases List.mem_cons.1 hx with rfl|hx
  ·exact N2
  ·rcases List.mem_cons.1 hx with rfl|hx
   ·exact N3
   ·rcases List.mem_cons.1 hx with rfl|hx
    ·exact N4
    ·cases hx) (fun x hx=>by
  rcases List.mem_cons.1 hx with rfl|hx
  ·exact Nat.le_refl _
  ·rcases List.mem_cons.1 hx with rfl|hx
   ·exact Nat.le_succ _
   ·rcases List.mem_cons.1 hx with rfl|hx
    ·show w.heap.size≤w.heap.size+1+1; omega
    ·cases hx)
 have hki:=(List.getElem?_eq_some_iff.1 hk).1
 have hji:=(List.getElem?_eq_some_iff.1 hj).1
 have HC:=Lib.hid (whole_p h1 (app_at hk) (app_at hj) hkj app_last (by omega) (by omega) (s1:=(dropS t x s gn S).1) (t1:=(dropS t x s gn S).2.1) (ls1:=ls) (gn1:=(dropS t x s gn S).2.2.1) (y:=(dropS t x s gn S).2.2.2) (it1:=locI [(w.heap.size,62,#[.pointer (some ⟨g,0,none⟩)]),(w.heap.size+1,3,#[.int .i64 x]),(w.heap.size+1+1,38,#[.int .u64 ver])]) 139 #[] #[.pointer (some ⟨w.heap.size,0,none⟩),.pointer (some ⟨w.heap.size+1,0,none⟩),.pointer (some ⟨w.heap.size+1+1,0,none⟩)] (fun _=>rfl)
  (fun Kq w1 A hA hkA hjA hlA=>(drop1_any hA hkA hjA hkj x ver hlA (by omega) (by omega) hv hls hep hgn hsz hpl S hS).mono fun e w' hw=>by
   rcases hw with ⟨hy,he,h2⟩ | ⟨hy,he,t9,h2⟩
   ·exact .inl ⟨hy,he,by rw [set_same (get_set (get_set hlA (by omega)) (by omega))]; exact h2⟩
   ·exact .inr ⟨hy,he,t9,ls,gn,h2⟩))
 have hq0:(dropS t x s gn S).2.2.2≠0→(dropS t x s gn S).2.2.2≠9→(dropS t x s gn S).2.1=t∧(dropS t x s gn S).2.2.1=gn:=by
  unfold dropS
  split
  ·intro _ _; exact ⟨rfl,rfl⟩
  ·intro a b; exact (chk_code _ _ _ a b).elim
 obtain ⟨R,ER⟩:∃ z,dropS t x s gn S=z:=⟨_,rfl⟩
 rw [ER] at HC hq0 ⊢
 have HQ:=Lib.hid hq0
 have c2:(((w.alloc (.cells #[.pointer (some ⟨g,0,none⟩)] 62)).alloc (.cells #[.int .i64 x] 3)).alloc (.cells #[.int .u64 ver] 38)).cell? ⟨w.heap.size,0,none⟩=some (.pointer (some ⟨g,0,none⟩)):=N2.cell 0
 clear h h1 N2 N3 N4 B0 hS ER hv hls hep hgn hsz hq0
 go_enter Tryz.func99,Tryz.ntmps99
 go_upto_region 1 with fail
 generalize (((w.alloc (.cells #[.pointer (some ⟨g,0,none⟩)] 62)).alloc (.cells #[.int .i64 x] 3)).alloc (.cells #[.int .u64 ver] 38))=w1 at *
 go_wp2_with fail
 refine HC.out.mono ?_
 rintro e' w2 ⟨rfl,hz,hn⟩
 have HZ:=Lib.hid hz
 have HN:=Lib.hid hn
 clear hz hn HC c2
 go_wp2_with fail
 go_ret
 refine ⟨rfl,told_of (it:=locI []) (t:=t) (ls:=ls) (gn:=gn) (fun h0=>?_) (fun h0=>?_) (fun h0 h9=>⟨(HQ.out h0 h9).1,rfl,(HQ.out h0 h9).2⟩)⟩
 ·have:=HZ.out h0
  rw [set_same (get_set app_last (Nat.ne_of_lt hki)),app_set hk,app_set (get_set hj hkj)] at this
  exact loc_drop this
 ·have:=HN.out h0
  rw [app_set hk,app_set (get_set hj hkj)] at this
  exact loc_drop this
set_option maxHeartbeats 2000000 in
theorem pseal_any (h:Dk.Sep W w items) (hk:items[k]? = some (Dk.diskI d s)) (hj:items[j]? = some (logI 156 g d t ls ep gn)) (hkj:k≠j)
 (hls:1≤ls∧ls+1<18446744073709551616) (hep:0≤ep∧ep<4294967296) (hfit:FitS t s) (hpl:s.pend.length<1048576) :
 Calls Tryz.prog 48 #[.pointer (some ⟨g,0,none⟩)] w fun e w' =>
  e=.returned (.int .i64 (sealS t s ls (footB t ls ep)).2.2.2)∧∃ it,Dk.Sep W w' ((items.set k (Dk.diskI d (sealS t s ls (footB t ls ep)).1)).set j it)∧((sealS t s ls (footB t ls ep)).2.2.2≠9→it=logI 156 g d (sealS t s ls (footB t ls ep)).2.1 (sealS t s ls (footB t ls ep)).2.2.1 ep gn):=by
 have hmf:∀ (fn:Fn) (first cap:Array Value) (w:World),(Instr.makeFunc fn first cap).run Tryz.prog w=.ok (.func fn first cap) w:=fun _ _ _ _=>rfl
 have h1:=loc_nil h
 have hki:=(List.getElem?_eq_some_iff.1 hk).1
 have hji:=(List.getElem?_eq_some_iff.1 hj).1
 have hD:(sealS t s ls (footB t ls ep)).2.2.2≠0→(sealS t s ls (footB t ls ep)).1=s:=by
  unfold sealS
  split
  ·intro _; rfl
  ·split
   ·intro _; rfl
   ·simp
 have HC:=Lib.hid (whole_p h1 (app_at hk) (app_at hj) hkj app_last (by omega) (by omega) (s1:=(sealS t s ls (footB t ls ep)).1) (t1:=(sealS t s ls (footB t ls ep)).2.1) (ls1:=(sealS t s ls (footB t ls ep)).2.2.1) (gn1:=gn) (y:=(sealS t s ls (footB t ls ep)).2.2.2) (it1:=locI []) 92 #[.pointer (some ⟨g,0,none⟩)] #[] (fun _=>rfl)
  (fun Kq w1 A hA hkA hjA hlA=>(roll_any hA hkA hjA hkj hls hep hfit hpl).mono fun e w' hw=>by
   rcases hw with ⟨hy,he,h2⟩ | ⟨hy,he,h2⟩
   ·exact .inl ⟨hy,he,by rw [set_same (get_set (get_set hlA (by omega)) (by omega))]; exact h2⟩
   ·exact .inr ⟨hy,he,t,ls,gn,by rw [hD hy,set_same hkA,set_same hjA]; exact h2⟩))
 have hq0:=seal_code t s ls (footB t ls ep)
 obtain ⟨R,ER⟩:∃ z,sealS t s ls (footB t ls ep)=z:=⟨_,rfl⟩
 rw [ER] at HC hq0 ⊢
 have HQ:=Lib.hid hq0
 clear h h1 ER hls hep hq0 hfit hD
 go_enter Tryz.func48,Tryz.ntmps48
 go_wp2_with fail
 refine HC.out.mono ?_
 rintro e' w2 ⟨rfl,hz,hn⟩
 have HZ:=Lib.hid hz
 have HN:=Lib.hid hn
 clear hz hn HC
 go_wp2_with fail
 go_ret
 refine ⟨rfl,told_of (it:=locI []) (t:=t) (ls:=ls) (gn:=gn) (fun h0=>?_) (fun h0=>?_) (fun h0 h9=>⟨(HQ.out h0 h9).1,(HQ.out h0 h9).2,rfl⟩)⟩
 ·have:=HZ.out h0
  rw [set_same (get_set app_last (Nat.ne_of_lt hki)),app_set hk,app_set (get_set hj hkj)] at this
  exact loc_drop this
 ·have:=HN.out h0
  rw [app_set hk,app_set (get_set hj hkj)] at this
  exact loc_drop this
end
end Go.Proofs.YtcnohlgigmmefaaGreat.Lg
