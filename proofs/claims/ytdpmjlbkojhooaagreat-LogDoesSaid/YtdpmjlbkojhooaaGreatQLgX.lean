/- A part. -/
import Derived.Test.YtdpmjlbkojhooaaGreatQLgT
import Derived.Deep.LoopGhost
import Derived.StillTailTactics
import Derived.WalkSmall
namespace Go.Proofs.YtdpmjlbkojhooaaGreat.Lg
open Go.RowKit Go.Lib
open Tb (Tab TIn Sl okP csT lastN nth Fresh)
open Dk (St Only Grew)
set_option linter.unusedVariables false
set_option maxRecDepth 100000
inductive Ce where
 | any
 | is (v:Value)
 | len (n:Nat)
def Ce.p:Ce→World→Value→Prop
 | .any=>fun _ _=>True
 | .is v=>fun _ u=>u=v
 | .len n=>fun _ u=>∃ A c,u=.slice A n c
theorem slot_len {xs:Array Value} {n p:Nat} {W:World} (h:Ce.p (.len p) W (xs.getD n undef)):Ce.p (.len p) W (xs[n]?.getD undef):=by simpa using h
theorem wp_ce {P:Program} {id:Nat} {Q:Exit→Act→World→Prop} {w:World} {ops:List Oper} {a0:Act} (cs:List Ce) (C:World→Prop)
 (hm:P.follows .mixedOrders=true) (hB:FreeG.okB ops.toArray a0.tmps.size=true) (hI:C { w with drawn:=w.drawn+1 })
 (hS:FreeG.Steps P ops.toArray (cs.map Ce.p) C (fun _ W'=>C W') a0 Q 0 ops)
 (fin:∀ a w,Free.At ops.toArray (cs.map Ce.p) C a0 (Array.replicate ops.length true) a w→Q .normal a w):(Code.region id ops.toArray true).wp P Q a0 w:=by
 refine FreeG.wp_freeG _ _ _ hm hB hI (fun _ _ _ hb=>hb) ?_ hS fin
 intro p hp W W' v hb hv
 obtain ⟨c,_,rfl⟩:=List.mem_map.1 hp
 cases c with
 | any=>exact trivial
 | is v=>exact hv
 | len n=>exact hv
theorem arrF132 {cs:Array Value} (h:cs.size=132):∃ y:Nat→Value,(∀ i,cs.getD i undef=y i)∧cs=#[y 0,y 1,y 2,y 3,y 4,y 5,y 6,y 7,y 8,y 9,y 10,y 11,y 12,y 13,y 14,y 15,y 16,y 17,y 18,y 19,y 20,y 21,y 22,y 23,y 24,y 25,y 26,y 27,y 28,y 29,y 30,y 31,y 32,y 33,y 34,y 35,y 36,y 37,y 38,y 39,y 40,y 41,y 42,y 43,y 44,y 45,y 46,y 47,y 48,y 49,y 50,y 51,y 52,y 53,y 54,y 55,y 56,y 57,y 58,y 59,y 60,y 61,y 62,y 63,y 64,y 65,y 66,y 67,y 68,y 69,y 70,y 71,y 72,y 73,y 74,y 75,y 76,y 77,y 78,y 79,y 80,y 81,y 82,y 83,y 84,y 85,y 86,y 87,y 88,y 89,y 90,y 91,y 92,y 93,y 94,y 95,y 96,y 97,y 98,y 99,y 100,y 101,y 102,y 103,y 104,y 105,y 106,y 107,y 108,y 109,y 110,y 111,y 112,y 113,y 114,y 115,y 116,y 117,y 118,y 119,y 120,y 121,y 122,y 123,y 124,y 125,y 126,y 127,y 128,y 129,y 130,y 131]:=by
 refine ⟨fun i=>cs.getD i undef,fun _=>rfl,?_⟩
 have e:cs=((List.range 132).map fun i=>cs.getD i undef).toArray:=by
  apply Array.ext
  ·simp [h]
  ·intro i h1 h2
   simp [h1]
 exact e.trans rfl
theorem limit_s {W w:World} {items:List Dk.Item} {k d:Nat} {s:St} (h:Dk.Sep W w items) (hk:items[k]? = some (Dk.diskI d s)) (n:Int) (h1:-9223372036854775808≤n) (h2:n≤9223372036854775807) :
 Calls Tryz.prog 15 #[.pointer (some ⟨d,0,none⟩),.int .i64 n] w fun e w'=>e=.returned (.tuple #[])∧Dk.Sep W w' (items.set k (Dk.diskI d (s.limit n))):=by
 obtain ⟨G,D,_,_,put⟩:=h.at_ k hk
 exact (Dk.limit_any D n h1 h2).mono fun e w' ⟨he,D',hO⟩=>⟨he,put w' G _ D' (Grew.refl _ _) hO⟩
theorem fmt_p {n sg sl rt:Int} {x:Nat} {S:ByteArray} (hn:1≤n∧n≤4096) (hS:S.size=128) (h:fmtE (St.new n) sg sl x rt S=0):LogP 0 (Tb.newT sg sl 1) (fmtD (St.new n) sg sl x rt S) 1 1:=by
 unfold fmtE at h
 unfold fmtD
 split at h
 ·rename_i hm
  rw [if_pos hm]
  split at h
  ·exact absurd h (by decide)
  ·rename_i hz
   rw [if_neg hz]
   have hsz:(St.new n).size=n:=rfl
   have hsc:2+sg*(sl+1)≤n:=by
    have:=hz
    unfold Ck.scC at this
    rw [if_pos hm] at this
    omega
   have h2:2≤n:=by
    have:=Int.mul_nonneg (show 0≤sg by have:=hm.1; omega) (show 0≤sl+1 by have:=hm.2.1; omega)
    omega
   have g0:=Dk.St.Good.new hn.1 hn.2
   unfold chkS at h ⊢
   split at h
   ·exact absurd h (by simp)
   ·rename_i d0
    rw [if_neg d0]
    split at h
    ·exact absurd h (by simp)
    ·rename_i d1
     rw [if_neg d1]
     split at h
     ·exact absurd h (by simp)
     ·rename_i d2
      rw [if_neg d2]
      have g1:=((g0.flush d0).write d1 (i:=(0+1)%2) (x:=S) ⟨by decide,by show (0+1)%2<n; omega⟩ hS).flush d2
      exact ⟨Tb.new_ok (may_size hm),hsc,g1,by decide,by decide,by decide,by decide,by show ([]:List (Int × ByteArray)).length≤_; simp⟩
 ·exact absurd h (by decide)
set_option maxHeartbeats 64000000 in
theorem does_any {PL:Nat→Nat→Tab→Int→Int→Int→Dk.Item} (P:Prg PL) (HF:∀ w,Calls Tryz.prog 13 #[] w fun e w'=>e=.returned (.bool true)∧Below w.heap.size w w')
 (n sg sl rt:Int) (x:Nat) (hx:x<18446744073709551616) (L:Option Addr) (N c:Nat) (lim:Int) (hlim:-9223372036854775808≤lim∧lim≤9223372036854775807) (f:Nat→LOp) (w:World) (hN:N≤maxLen) (hL:LopsIn w L N f) :
 Calls Tryz.prog 3 #[.int .i64 n,.agg #[.int .i64 sg,.int .i64 sl,.float .f64 x,.int .i64 rt],.agg #[.slice L N c,.int .i64 lim]] w fun e w'=>e=.returned (.bool true)∧Below w.heap.size w w':=by
 have N4:Tb.Blk (w.alloc (.cells (csF sg sl x rt) 24)) w.heap.size 24 (csF sg sl x rt):=Tb.Blk.new w _ _
 have bb1:=Tb.below1 w (.cells (csF sg sl x rt) 24)
 have N5:Tb.Blk ((w.alloc (.cells (csF sg sl x rt) 24)).alloc (.cells #[.slice L N c,.int .i64 lim] 27)) (w.heap.size+1) 27 #[.slice L N c,.int .i64 lim]:=by
  have:=Tb.Blk.new (w.alloc (.cells (csF sg sl x rt) 24)) 27 #[.slice L N c,.int .i64 lim]
  rw [show (w.alloc (.cells (csF sg sl x rt) 24)).heap.size=w.heap.size+1 by simp] at this
  exact this
 replace N4:=N4.later (Tb.below1 _ (.cells #[.slice L N c,.int .i64 lim] 27))
 have BBA:=Lib.hid (bb1.trans ((Tb.below1 (w.alloc (.cells (csF sg sl x rt) 24)) (.cells #[.slice L N c,.int .i64 lim] 27)).mono bb1.size))
 clear bb1
 have HL:=Lib.hid hL
 have HNN:=Lib.hid hN
 have HLI:=Lib.hid hlim
 clear hL hN hlim
 go_enter Tryz.func3,Tryz.ntmps3
 go_upto_region 1 with fail
 change Code.wp _ _ _ _ ((w.alloc (.cells (csF sg sl x rt) 24)).alloc (.cells #[.slice L N c,.int .i64 lim] 27))
 obtain ⟨b,Eb⟩:∃ z,w.heap.size=z:=⟨_,rfl⟩
 have HWB:Hid (w.heap.size=b):=Lib.hid Eb
 rw [Eb] at N4 N5 ⊢
 clear Eb
 generalize (w.alloc (.cells (csF sg sl x rt) 24)).alloc (.cells #[.slice L N c,.int .i64 lim] 27)=wA at *
 have HSM:=Lib.hid (small_any sg sl rt x wA hx)
 obtain ⟨G,EG⟩:∃ z,smG sg sl x rt=z:=⟨_,rfl⟩
 obtain ⟨Z,EZ⟩:∃ z,smL sg sl x rt=z:=⟨_,rfl⟩
 rw [EG,EZ] at HSM
 have HSZ:Hid (fmtE (St.new n) G Z x rt (⟨(Cp.secL ⟨1,1,1,0,[0],[0]⟩).toArray⟩:ByteArray)=0→Ck.MayC G Z x rt∧Ck.scC G Z x rt≤n):=Lib.hid (by
  intro h
  unfold fmtE at h
  split at h
  ·rename_i hm
   split at h
   ·exact absurd h (by decide)
   ·rename_i hs
    exact ⟨hm,by have:(St.new n).size=n:=rfl; omega⟩
  ·exact absurd h (by decide))
 clear EG EZ
 go_wp2_with (with_reducible refine load_cf rfl (.tmp 4) rfl b rfl N4 ?_)
 refine HSM.out.mono ?_
 rintro e' w1 ⟨rfl,hb1⟩
 replace N4:=N4.later hb1
 replace N5:=N5.later hb1
 replace BBA:=Lib.hid (BBA.out.trans (hb1.mono BBA.out.size))
 clear HSM hb1
 go_upto_region 2 with (with_reducible refine store_cf rfl (.tmp 4) (.tmp 17) rfl b rfl rfl N4 ?_)
 replace N5:Tb.Blk (w1.setRow b (csF G Z x rt)) (b+1) 27 #[.slice L N c,.int .i64 lim]:=(setRow_other w1 b (b+1) _ (by omega)).trans N5
 replace N4:=N4.row (csF G Z x rt)
 replace BBA:=Lib.hid (Tb.below_row BBA.out (show w.heap.size≤b by have:=HWB.out; omega) (csF G Z x rt))
 generalize w1.setRow b (csF G Z x rt)=wB at *
 obtain ⟨S,HS⟩:∃ S:ByteArray,Cp.secL ⟨1,1,1,0,[0],[0]⟩=S.data.toList∧S=⟨(Cp.secL ⟨1,1,1,0,[0],[0]⟩).toArray⟩:=⟨⟨(Cp.secL ⟨1,1,1,0,[0],[0]⟩).toArray⟩,by simp,rfl⟩
 rw [← HS.2] at HSZ
 have HSS:=Lib.hid HS.1
 clear HS
 have HM:=Lib.hid (made_any P (Dk.Sep.nil (Below.refl wB.heap.size wB)) n G Z rt x hx S HSS.out)
 go_wp2_with (with_reducible refine load_cf rfl (.tmp 4) rfl b rfl N4 ?_)
 refine HM.out.mono ?_
 rintro e' w2 (⟨hn,rfl,h2⟩ | ⟨hn,hE,d,rfl,h2⟩ | ⟨hn,hE,g,d,rfl,h2⟩)
 ·have BB2:=Lib.hid (BBA.out.trans (h2.below.mono BBA.out.size))
  have HN:=Lib.hid (Dk.rnew_no (w:=w2) n hn)
  clear h2 hn HM N4 N5
  go_wp2_with fail
  refine HN.out.mono ?_
  rintro e' w3 ⟨rfl,rfl⟩
  go_wp2_with fail
  refine (HF _).mono ?_
  rintro e' w3 ⟨rfl,hb⟩
  have BB3:=Lib.hid (BB2.out.trans (hb.mono BB2.out.size))
  clear hb
  go_wp2_with fail
  go_ret
  exact ⟨rfl,BB3.out⟩
 ·have BB2:=Lib.hid hE
  have HR:=Lib.hid (Dk.rnew_s h2 n hn.1 hn.2)
  obtain ⟨er,EE⟩:∃ z,fmtE (St.new n) G Z x rt S=z:=⟨_,rfl⟩
  rw [EE] at BB2 ⊢
  clear hE h2 HM
  go_wp2_with fail
  refine HR.out.mono ?_
  rintro e' w3 ⟨q,rfl,h3⟩
  have M4:=N4.later h3.below
  have HQ:=Lib.hid (rfmt_any h3 (k:=1) rfl G Z rt x hx (by simp [Dk.St.new]) S HSS.out)
  rw [EE] at HQ
  clear h3 HR N4 N5
  go_wp2_with (with_reducible refine load_cf rfl (.tmp 4) rfl b rfl M4 ?_)
  refine HQ.out.mono ?_
  rintro e' w4 (⟨h0,_⟩ | ⟨_,rfl,h4⟩)
  ·exact absurd h0 BB2.out
  have BB3:=Lib.hid (BBA.out.trans (h4.below.mono BBA.out.size))
  clear h4 HQ M4 EE
  have u0:(er != er)=false:=by simp
  go_wp2_with fail
  refine (HF _).mono ?_
  rintro e' w5 ⟨rfl,hb⟩
  have BB5:=Lib.hid (BB3.out.trans (hb.mono BB3.out.size))
  clear hb
  go_wp2_with fail
  go_ret
  exact ⟨rfl,BB5.out⟩
 ·have HR:=Lib.hid (Dk.rnew_s h2 n hn.1 hn.2)
  have HP:=Lib.hid (fmt_p hn ((size_of HSS.out).trans (by rw [Cp.secL_len]; exact okC_of (t:=Tb.newT 4 1 1) (Tb.new_ok rfl) (by decide) (by decide))) hE)
  obtain ⟨sd,ED⟩:∃ z,fmtD (St.new n) G Z x rt S=z:=⟨_,rfl⟩
  rw [ED] at HP
  have HE0:=Lib.hid hE
  clear hE h2 HM
  go_wp2_with fail
  refine HR.out.mono ?_
  rintro e' w3 ⟨q,rfl,h3⟩
  have M4:=N4.later h3.below
  have HQ:=Lib.hid (rfmt_any h3 (k:=2) rfl G Z rt x hx (by simp [Dk.St.new]) S HSS.out)
  clear h3 HR N4
  go_wp2_with (with_reducible refine load_cf rfl (.tmp 4) rfl b rfl M4 ?_)
  refine HQ.out.mono ?_
  rintro e' w4 (⟨_,g2,rfl,h4⟩ | ⟨h0,_⟩)
  rotate_left
  ·exact absurd HE0.out h0
  rw [ED] at h4
  change Dk.Sep wB w4 (four PL d g q g2 sd (Tb.newT G Z 1) 1 1 1) at h4
  obtain ⟨t0,ET⟩:∃ z,Tb.newT G Z 1=z:=⟨_,rfl⟩
  rw [ET] at h4 HP
  clear HQ M4 ED ET HE0 HSZ HSS hn
  have c1:w4.cell? ⟨b+1,1,none⟩=some (.int .i64 lim):=(N5.later h4.below).cell 1
  go_upto_if 66 with fail
  go_cut [] from 66 to 74 (fun wx=>∃ s',Hid (LogP (2*0) t0 s' 1 1∧Dk.Sep wB wx (four PL d g q g2 s' t0 1 1 1)))
  case first =>
   by_cases hl:0≤lim
   ·have ql:decide (0≤lim)=true:=decide_eq_true hl
    have HA:=Lib.hid (limit_s h4 (k:=0) rfl lim HLI.out.1 HLI.out.2)
    have HB:=Lib.hid (fun w5 (h:Dk.Sep wB w5 [Dk.diskI d (sd.limit lim),PL g d t0 1 1 1,Dk.refI q sd,logI 121 g2 q t0 1 1 1])=>Dk.rlimit_s h (k:=2) rfl lim HLI.out.1 HLI.out.2)
    have HP6:Hid (LogP 0 t0 (sd.limit lim) 1 1):=Lib.hid ⟨HP.out.ok,HP.out.fit,HP.out.good.limit HLI.out.1 HLI.out.2,HP.out.ls1,HP.out.ls2,HP.out.gn1,HP.out.gn2,HP.out.pend⟩
    clear h4
    go_wp2_with fail
    refine HA.out.mono ?_
    rintro e' w5 ⟨rfl,h5⟩
    clear c1
    have c1:w5.cell? ⟨b+1,1,none⟩=some (.int .i64 lim):=(N5.later h5.below).cell 1
    go_wp2_with fail
    refine (HB.out w5 h5).mono ?_
    rintro e' w6 ⟨rfl,h6⟩
    have I0:Hid (LogP (2*0) t0 (sd.limit lim) 1 1∧Dk.Sep wB w6 (four PL d g q g2 (sd.limit lim) t0 1 1 1)):=Lib.hid ⟨HP6.out,h6⟩
    clear h5 h6 HA HB HP HP6 c1 ql
    go_wp2_with fail
    go_meet
    exact ⟨_,I0⟩
   ·have ql:decide (0≤lim)=false:=decide_eq_false hl
    have I0:Hid (LogP (2*0) t0 sd 1 1∧Dk.Sep wB w4 (four PL d g q g2 sd t0 1 1 1)):=Lib.hid ⟨HP.out,h4⟩
    clear h4 HP
    go_wp2_with fail
    go_meet
    exact ⟨_,I0⟩
  case rest =>
  clear h4 HP c1
  obtain ⟨sl0,I0⟩:=hcut
  go_wp2_with fail
  go_loopg [14] 60 (fun gk s14 wr=>∃ (i:Nat) (s1:St) (t1:Tab) (l1 g1:Int),i≤60∧gk=60-i∧s14=.int .i64 (i:Nat)∧Hid (LogP (2*i) t1 s1 l1 g1∧Dk.Sep wB wr (four PL d g q g2 s1 t1 l1 1 g1)))
  case atStart=>exact ⟨0,_,_,_,_,by omega,rfl,rfl,I0⟩
  case round =>
   obtain ⟨i,s1,t1,l1,g1,hi,hgk,rfl,HI⟩:=hrel
   have HG:=Lib.hid hgk
   clear hgk I0
   have c0:wr.cell? ⟨b+1,0,none⟩=some (.slice L N c):=(N5.later HI.out.2.below).cell 0
   by_cases hgo:i<N∧(i:Int)<60
   ·have hlt:i<N:=hgo.1
    have hlti:(i:Int)<(N:Int):=by omega
    have h60:(i:Int)<60:=hgo.2
    obtain ⟨ab,off,rfl,hab,hops⟩:=HL.out.2 (by omega)
    have BBR:Below w.heap.size w wr:=BBA.out.trans (HI.out.2.below.mono BBA.out.size)
    have HO:=Lib.hid (HL.out.1 i hlt)
    have d0:wr.cell? ⟨ab,off+i*10,none⟩=some (.int .i64 (f i).k):=(BBR.cell (p:=⟨ab,off+i*10,none⟩) hab).trans (hops i hlt 0 (by omega))
    have d1:wr.cell? ⟨ab,off+i*10+1,none⟩=some (.int .u64 (f i).l):=(BBR.cell (p:=⟨ab,off+i*10+1,none⟩) hab).trans (hops i hlt 1 (by omega))
    have d2:wr.cell? ⟨ab,off+i*10+2,none⟩=some (.int .u32 (f i).e):=(BBR.cell (p:=⟨ab,off+i*10+2,none⟩) hab).trans (hops i hlt 2 (by omega))
    have d3:wr.cell? ⟨ab,off+i*10+3,none⟩=some (.int .i64 (f i).rk):=(BBR.cell (p:=⟨ab,off+i*10+3,none⟩) hab).trans (hops i hlt 3 (by omega))
    have d4:wr.cell? ⟨ab,off+i*10+4,none⟩=some (.int .u64 (f i).v):=(BBR.cell (p:=⟨ab,off+i*10+4,none⟩) hab).trans (hops i hlt 4 (by omega))
    have d5:wr.cell? ⟨ab,off+i*10+5,none⟩=some (.int .u64 (f i).d):=(BBR.cell (p:=⟨ab,off+i*10+5,none⟩) hab).trans (hops i hlt 5 (by omega))
    have d6:wr.cell? ⟨ab,off+i*10+6,none⟩=some (.string (f i).i):=(BBR.cell (p:=⟨ab,off+i*10+6,none⟩) hab).trans (hops i hlt 6 (by omega))
    have d7:wr.cell? ⟨ab,off+i*10+7,none⟩=some (.string (f i).a):=(BBR.cell (p:=⟨ab,off+i*10+7,none⟩) hab).trans (hops i hlt 7 (by omega))
    have d8:wr.cell? ⟨ab,off+i*10+8,none⟩=some (.int .i64 (f i).n):=(BBR.cell (p:=⟨ab,off+i*10+8,none⟩) hab).trans (hops i hlt 8 (by omega))
    have d9:wr.cell? ⟨ab,off+i*10+9,none⟩=some (.int .u64 (f i).u):=(BBR.cell (p:=⟨ab,off+i*10+9,none⟩) hab).trans (hops i hlt 9 (by omega))
    clear BBR hops
    go_wp2_with fail
    refine (step_any P HI.out.2 HI.out.1 ⟨by decide,by decide⟩ (by omega) (f i) HO.out).mono ?_
    rintro e' v1 ⟨s1,t1,l1,g1,HP1,(⟨rfl,h1⟩ | ⟨rfl,i1,i2,h1⟩)⟩
    ·have HI2:Hid (LogP (2*(i+1)) t1 s1 l1 g1∧Dk.Sep wB v1 (four PL d g q g2 s1 t1 l1 1 g1)):=Lib.hid ⟨HP1,h1⟩
     clear HI HP1 h1 d0 d1 d2 d3 d4 d5 d6 d7 d8 d9 c0
     go_wp2_with fail
     go_roundg (60-(i+1))
     case measure=>have:=HG.out; omega
     case rel=>exact ⟨i+1,s1,t1,l1,g1,by omega,rfl,by go_num,HI2⟩
    ·have HX:Hid (Dk.Sep wB v1 [Dk.diskI d s1,i1,Dk.refI q s1,i2]):=Lib.hid h1
     have HPL:Hid (s1.pend.length<1048576):=Lib.hid (by have:=HP1.pend; omega)
     clear HI HP1 h1 d0 d1 d2 d3 d4 d5 d6 d7 d8 d9 c0
     go_wp2_with fail
     refine wp_ce [.is (.pointer (some ⟨d,0,none⟩)),
      .is (.int .i64 ((s1.pend.length:Int))),
      .is (.pointer (some ⟨q,0,none⟩)),
      .is (.pointer (some ⟨q,0,none⟩)),
      .is (.pointer (some ⟨q,1,none⟩)),
      .len s1.pend.length,
      .is (.int .i64 ((s1.pend.length:Int))),
      .is (.bool true),
      .is (.bool true),
      .is (.pointer (some ⟨d,0,none⟩)),
      .is (.pointer (some ⟨q,0,none⟩)),
      .is (.int .i64 (1)),
      .is (.bool true),
      .is (.bool true),
      .is (.bool true),
      .is (.bool true),
      .is (.bool true),
      .is (.bool true)] (fun W=>Dk.Sep wB W [Dk.diskI d s1,i1,Dk.refI q s1,i2]) (by kernel_rfl) (by kernel_rfl) HX.out.drew ?_ ?_
     ·refine ⟨?_,?_,?_,?_,?_,?_,?_,?_,?_,?_,?_,?_,?_,?_,?_,?_,?_,?_,trivial⟩
      ·intro listed A0 W hA hr K hK
       have e8:A0.tmps[8]?.getD undef=.pointer (some ⟨d,0,none⟩):=slot_is ((hA.kept 8 (Free.not_dst (by kernel_rfl))).trans rfl)
       rw [if_pos (FreeG.wanted_plain rfl)]
       simp [go_sem,e8]
       exact hK _ _ hA.c rfl
      ·intro listed A0 W hA hr K hK
       have e98:A0.tmps[98]?.getD undef=.pointer (some ⟨d,0,none⟩):=slot_is (hA.val 0 _ rfl (hr ⟨0,.data⟩ (by simp) rfl))
       rw [if_pos (FreeG.wanted_plain rfl)]
       simp [go_sem,e98]
       refine (Dk.pending_s hA.c 0 rfl _ rfl).mono ?_
       rintro e' w' ⟨rfl,hb⟩
       exact hK _ _ hb rfl
      ·intro listed A0 W hA hr K hK
       have e10:A0.tmps[10]?.getD undef=.pointer (some ⟨q,0,none⟩):=slot_is ((hA.kept 10 (Free.not_dst (by kernel_rfl))).trans rfl)
       rw [if_pos (FreeG.wanted_plain rfl)]
       simp [go_sem,e10]
       exact hK _ _ hA.c rfl
      ·intro listed A0 W hA hr K hK
       have e100:A0.tmps[100]?.getD undef=.pointer (some ⟨q,0,none⟩):=slot_is (hA.val 2 _ rfl (hr ⟨2,.data⟩ (by simp) rfl))
       rw [if_pos (FreeG.wanted_plain rfl)]
       simp [go_sem,e100]
       exact hK _ _ hA.c rfl
      ·intro listed A0 W hA hr K hK
       have e101:A0.tmps[101]?.getD undef=.pointer (some ⟨q,0,none⟩):=slot_is (hA.val 3 _ rfl (hr ⟨3,.data⟩ (by simp) rfl))
       rw [if_pos (FreeG.wanted_plain rfl)]
       simp [go_sem,e101]
       exact hK _ _ hA.c rfl
      ·intro listed A0 W hA hr K hK
       have e102:A0.tmps[102]?.getD undef=.pointer (some ⟨q,1,none⟩):=slot_is (hA.val 4 _ rfl (hr ⟨4,.data⟩ (by simp) rfl))
       rw [if_pos (FreeG.wanted_plain rfl)]
       obtain ⟨G,⟨vL,vW,vT,D9⟩,_⟩:=hA.c.at_ 2 rfl
       obtain ⟨Aw,cw,rfl⟩:=Dk.own_slice D9.rowW
       have f0:=D9.x1
       simp [go_sem,e102,f0]
       exact hK _ _ hA.c ⟨Aw,cw,rfl⟩
      ·intro listed A0 W hA hr K hK
       rw [if_pos (FreeG.wanted_plain rfl)]
       have e103:=slot_len (W:=W) (hA.val 5 _ rfl (hr ⟨5,.data⟩ (by simp) rfl))
       obtain ⟨Aw,cw,e103⟩:=e103
       simp [go_sem,e103]
       exact hK _ _ hA.c rfl
      ·intro listed A0 W hA hr K hK
       have e99:A0.tmps[99]?.getD undef=.int .i64 ((s1.pend.length:Int)):=slot_is (hA.val 1 _ rfl (hr ⟨1,.data⟩ (by simp) rfl))
       have e104:A0.tmps[104]?.getD undef=.int .i64 ((s1.pend.length:Int)):=slot_is (hA.val 6 _ rfl (hr ⟨6,.data⟩ (by simp) rfl))
       rw [if_pos (FreeG.wanted_plain rfl)]
       simp [go_sem,e99,e104]
       exact hK _ _ hA.c rfl
      ·intro listed A0 W hA hr K hK
       have e105:A0.tmps[105]?.getD undef=.bool true:=slot_is (hA.val 7 _ rfl (hr ⟨7,.data⟩ (by simp) rfl))
       rw [if_pos (FreeG.wanted_plain rfl)]
       simp [go_sem,e105]
       exact hK _ _ hA.c rfl
      ·intro listed A0 W hA hr K hK
       have eg:A0.tmps[106]?.getD undef=.bool true:=slot_is (hA.val 8 _ rfl (hr ⟨8,.guard⟩ (by simp) rfl))
       have e8:A0.tmps[8]?.getD undef=.pointer (some ⟨d,0,none⟩):=slot_is ((hA.kept 8 (Free.not_dst (by kernel_rfl))).trans rfl)
       rw [if_pos (FreeG.wanted_yes rfl rfl rfl eg)]
       simp [go_sem,e8]
       exact hK _ _ hA.c rfl
      ·intro listed A0 W hA hr K hK
       have eg:A0.tmps[106]?.getD undef=.bool true:=slot_is (hA.val 8 _ rfl (hr ⟨8,.guard⟩ (by simp) rfl))
       have e10:A0.tmps[10]?.getD undef=.pointer (some ⟨q,0,none⟩):=slot_is ((hA.kept 10 (Free.not_dst (by kernel_rfl))).trans rfl)
       rw [if_pos (FreeG.wanted_yes rfl rfl rfl eg)]
       simp [go_sem,e10]
       exact hK _ _ hA.c rfl
      ·intro listed A0 W hA hr K hK
       have eg:A0.tmps[106]?.getD undef=.bool true:=slot_is (hA.val 8 _ rfl (hr ⟨8,.guard⟩ (by simp) rfl))
       have e107:A0.tmps[107]?.getD undef=.pointer (some ⟨d,0,none⟩):=slot_is (hA.val 9 _ rfl (hr ⟨9,.data⟩ (by simp) rfl))
       have e108:A0.tmps[108]?.getD undef=.pointer (some ⟨q,0,none⟩):=slot_is (hA.val 10 _ rfl (hr ⟨10,.data⟩ (by simp) rfl))
       rw [if_pos (FreeG.wanted_yes rfl rfl rfl eg)]
       simp [go_sem,e107,e108]
       refine (Dk.same_s hA.c (j:=0) (k:=2) rfl rfl HPL.out).mono ?_
       rintro e' w' ⟨rfl,hb⟩
       exact hK _ _ hb rfl
      ·intro listed A0 W hA hr K hK
       have eg:A0.tmps[106]?.getD undef=.bool true:=slot_is (hA.val 8 _ rfl (hr ⟨8,.guard⟩ (by simp) rfl))
       have e109:A0.tmps[109]?.getD undef=.int .i64 (1):=slot_is (hA.val 11 _ rfl (hr ⟨11,.data⟩ (by simp) rfl))
       rw [if_pos (FreeG.wanted_yes rfl rfl rfl eg)]
       simp [go_sem,e109]
       exact hK _ _ hA.c rfl
      ·intro listed A0 W hA hr K hK
       have e106:A0.tmps[106]?.getD undef=.bool true:=slot_is (hA.val 8 _ rfl (hr ⟨8,.data⟩ (by simp) rfl))
       have e110:A0.tmps[110]?.getD undef=.bool true:=slot_is (hA.val 12 _ rfl (hr ⟨12,.data⟩ (by simp) rfl))
       rw [if_pos (FreeG.wanted_plain rfl)]
       simp [go_sem,e106,e110]
       exact hK _ _ hA.c rfl
      ·intro listed A0 W hA hr K hK
       have e111:A0.tmps[111]?.getD undef=.bool true:=slot_is (hA.val 13 _ rfl (hr ⟨13,.data⟩ (by simp) rfl))
       rw [if_pos (FreeG.wanted_plain rfl)]
       simp [go_sem,e111]
       exact hK _ _ hA.c rfl
      ·intro listed A0 W hA hr K hK
       have eg:A0.tmps[112]?.getD undef=.bool true:=slot_is (hA.val 14 _ rfl (hr ⟨14,.guard⟩ (by simp) rfl))
       rw [if_pos (FreeG.wanted_yes rfl rfl rfl eg)]
       simp [go_sem]
       refine ((HF W).mono fun e' w' h=>(⟨h.1,hA.c.later h.2⟩:_∧Dk.Sep wB w' [Dk.diskI d s1,i1,Dk.refI q s1,i2])).mono ?_
       rintro e' w' ⟨rfl,hb⟩
       exact hK _ _ hb rfl
      ·intro listed A0 W hA hr K hK
       have e112:A0.tmps[112]?.getD undef=.bool true:=slot_is (hA.val 14 _ rfl (hr ⟨14,.data⟩ (by simp) rfl))
       have e113:A0.tmps[113]?.getD undef=.bool true:=slot_is (hA.val 15 _ rfl (hr ⟨15,.data⟩ (by simp) rfl))
       rw [if_pos (FreeG.wanted_plain rfl)]
       simp [go_sem,e112,e113]
       exact hK _ _ hA.c rfl
      ·intro listed A0 W hA hr K hK
       have e114:A0.tmps[114]?.getD undef=.bool true:=slot_is (hA.val 16 _ rfl (hr ⟨16,.data⟩ (by simp) rfl))
       rw [if_pos (FreeG.wanted_plain rfl)]
       simp [go_sem,e114]
       exact hK _ _ hA.c rfl
     ·intro A0 W9 hA
      have s6:A0.tmps.getD 6 undef=.bool true:=hA.val 17 _ rfl rfl
      have hsz:=hA.slots
      have hde:=hA.defers
      have BE:=Lib.hid (BBA.out.trans (hA.c.below.mono BBA.out.size))
      clear hA
      obtain ⟨tm,de⟩:=A0
      simp only at s6 hsz hde
      obtain ⟨y,hy,ee⟩:=arrF132 hsz
      have t6:y 6=.bool true:=(hy 6).symm.trans s6
      rw [t6] at ee
      clear s6 hsz hy t6
      subst ee hde
      go_wp2_with fail
      go_ret
      exact ⟨rfl,BE.out⟩
   ·go_upto_region 15 with fail
    go_cut [83] from 75 to 82 (fun s83 wx=>s83=.bool false∧wr=wx)
    case first =>
     by_cases hlt:(i:Int)<(N:Int)
     ·have q1:decide ((i:Int)<(N:Int))=true:=decide_eq_true hlt
      have q2:decide ((i:Int)<60)=false:=decide_eq_false (fun h=>hgo ⟨by omega,h⟩)
      have q3:¬ (i:Int)<60:=fun h=>hgo ⟨by omega,h⟩
      clear hgo
      go_wp2_with fail
      go_meet
      exact ⟨rfl,rfl⟩
     ·have q1:decide ((i:Int)<(N:Int))=false:=decide_eq_false hlt
      clear hgo
      go_wp2_with fail
      go_meet
      exact ⟨rfl,rfl⟩
    case rest =>
    obtain ⟨rfl,rfl⟩:=hcut
    clear hgo c0
    have HX:Hid (Dk.Sep wB wr [Dk.diskI d s1,PL g d t1 l1 1 g1,Dk.refI q s1,logI 121 g2 q t1 l1 1 g1]):=Lib.hid HI.out.2
    have HPL:Hid (s1.pend.length<1048576):=Lib.hid (by have:=HI.out.1.pend; omega)
    clear HI
    go_wp2_with fail
    refine wp_ce [.is (.pointer (some ⟨d,0,none⟩)),
     .is (.int .i64 ((s1.pend.length:Int))),
     .is (.pointer (some ⟨q,0,none⟩)),
     .is (.pointer (some ⟨q,0,none⟩)),
     .is (.pointer (some ⟨q,1,none⟩)),
     .len s1.pend.length,
     .is (.int .i64 ((s1.pend.length:Int))),
     .is (.bool true),
     .is (.bool true),
     .is (.pointer (some ⟨d,0,none⟩)),
     .is (.pointer (some ⟨q,0,none⟩)),
     .is (.int .i64 (1)),
     .is (.bool true),
     .is (.bool true),
     .is (.bool true),
     .is (.bool true),
     .is (.bool true),
     .is (.bool true)] (fun W=>Dk.Sep wB W [Dk.diskI d s1,PL g d t1 l1 1 g1,Dk.refI q s1,logI 121 g2 q t1 l1 1 g1]) (by kernel_rfl) (by kernel_rfl) HX.out.drew ?_ ?_
    ·refine ⟨?_,?_,?_,?_,?_,?_,?_,?_,?_,?_,?_,?_,?_,?_,?_,?_,?_,?_,trivial⟩
     ·intro listed A0 W hA hr K hK
      have e8:A0.tmps[8]?.getD undef=.pointer (some ⟨d,0,none⟩):=slot_is ((hA.kept 8 (Free.not_dst (by kernel_rfl))).trans rfl)
      rw [if_pos (FreeG.wanted_plain rfl)]
      simp [go_sem,e8]
      exact hK _ _ hA.c rfl
     ·intro listed A0 W hA hr K hK
      have e115:A0.tmps[115]?.getD undef=.pointer (some ⟨d,0,none⟩):=slot_is (hA.val 0 _ rfl (hr ⟨0,.data⟩ (by simp) rfl))
      rw [if_pos (FreeG.wanted_plain rfl)]
      simp [go_sem,e115]
      refine (Dk.pending_s hA.c 0 rfl _ rfl).mono ?_
      rintro e' w' ⟨rfl,hb⟩
      exact hK _ _ hb rfl
     ·intro listed A0 W hA hr K hK
      have e10:A0.tmps[10]?.getD undef=.pointer (some ⟨q,0,none⟩):=slot_is ((hA.kept 10 (Free.not_dst (by kernel_rfl))).trans rfl)
      rw [if_pos (FreeG.wanted_plain rfl)]
      simp [go_sem,e10]
      exact hK _ _ hA.c rfl
     ·intro listed A0 W hA hr K hK
      have e117:A0.tmps[117]?.getD undef=.pointer (some ⟨q,0,none⟩):=slot_is (hA.val 2 _ rfl (hr ⟨2,.data⟩ (by simp) rfl))
      rw [if_pos (FreeG.wanted_plain rfl)]
      simp [go_sem,e117]
      exact hK _ _ hA.c rfl
     ·intro listed A0 W hA hr K hK
      have e118:A0.tmps[118]?.getD undef=.pointer (some ⟨q,0,none⟩):=slot_is (hA.val 3 _ rfl (hr ⟨3,.data⟩ (by simp) rfl))
      rw [if_pos (FreeG.wanted_plain rfl)]
      simp [go_sem,e118]
      exact hK _ _ hA.c rfl
     ·intro listed A0 W hA hr K hK
      have e119:A0.tmps[119]?.getD undef=.pointer (some ⟨q,1,none⟩):=slot_is (hA.val 4 _ rfl (hr ⟨4,.data⟩ (by simp) rfl))
      rw [if_pos (FreeG.wanted_plain rfl)]
      obtain ⟨G,⟨vL,vW,vT,D9⟩,_⟩:=hA.c.at_ 2 rfl
      obtain ⟨Aw,cw,rfl⟩:=Dk.own_slice D9.rowW
      have f0:=D9.x1
      simp [go_sem,e119,f0]
      exact hK _ _ hA.c ⟨Aw,cw,rfl⟩
     ·intro listed A0 W hA hr K hK
      rw [if_pos (FreeG.wanted_plain rfl)]
      have e120:=slot_len (W:=W) (hA.val 5 _ rfl (hr ⟨5,.data⟩ (by simp) rfl))
      obtain ⟨Aw,cw,e120⟩:=e120
      simp [go_sem,e120]
      exact hK _ _ hA.c rfl
     ·intro listed A0 W hA hr K hK
      have e116:A0.tmps[116]?.getD undef=.int .i64 ((s1.pend.length:Int)):=slot_is (hA.val 1 _ rfl (hr ⟨1,.data⟩ (by simp) rfl))
      have e121:A0.tmps[121]?.getD undef=.int .i64 ((s1.pend.length:Int)):=slot_is (hA.val 6 _ rfl (hr ⟨6,.data⟩ (by simp) rfl))
      rw [if_pos (FreeG.wanted_plain rfl)]
      simp [go_sem,e116,e121]
      exact hK _ _ hA.c rfl
     ·intro listed A0 W hA hr K hK
      have e122:A0.tmps[122]?.getD undef=.bool true:=slot_is (hA.val 7 _ rfl (hr ⟨7,.data⟩ (by simp) rfl))
      rw [if_pos (FreeG.wanted_plain rfl)]
      simp [go_sem,e122]
      exact hK _ _ hA.c rfl
     ·intro listed A0 W hA hr K hK
      have eg:A0.tmps[123]?.getD undef=.bool true:=slot_is (hA.val 8 _ rfl (hr ⟨8,.guard⟩ (by simp) rfl))
      have e8:A0.tmps[8]?.getD undef=.pointer (some ⟨d,0,none⟩):=slot_is ((hA.kept 8 (Free.not_dst (by kernel_rfl))).trans rfl)
      rw [if_pos (FreeG.wanted_yes rfl rfl rfl eg)]
      simp [go_sem,e8]
      exact hK _ _ hA.c rfl
     ·intro listed A0 W hA hr K hK
      have eg:A0.tmps[123]?.getD undef=.bool true:=slot_is (hA.val 8 _ rfl (hr ⟨8,.guard⟩ (by simp) rfl))
      have e10:A0.tmps[10]?.getD undef=.pointer (some ⟨q,0,none⟩):=slot_is ((hA.kept 10 (Free.not_dst (by kernel_rfl))).trans rfl)
      rw [if_pos (FreeG.wanted_yes rfl rfl rfl eg)]
      simp [go_sem,e10]
      exact hK _ _ hA.c rfl
     ·intro listed A0 W hA hr K hK
      have eg:A0.tmps[123]?.getD undef=.bool true:=slot_is (hA.val 8 _ rfl (hr ⟨8,.guard⟩ (by simp) rfl))
      have e124:A0.tmps[124]?.getD undef=.pointer (some ⟨d,0,none⟩):=slot_is (hA.val 9 _ rfl (hr ⟨9,.data⟩ (by simp) rfl))
      have e125:A0.tmps[125]?.getD undef=.pointer (some ⟨q,0,none⟩):=slot_is (hA.val 10 _ rfl (hr ⟨10,.data⟩ (by simp) rfl))
      rw [if_pos (FreeG.wanted_yes rfl rfl rfl eg)]
      simp [go_sem,e124,e125]
      refine (Dk.same_s hA.c (j:=0) (k:=2) rfl rfl HPL.out).mono ?_
      rintro e' w' ⟨rfl,hb⟩
      exact hK _ _ hb rfl
     ·intro listed A0 W hA hr K hK
      have eg:A0.tmps[123]?.getD undef=.bool true:=slot_is (hA.val 8 _ rfl (hr ⟨8,.guard⟩ (by simp) rfl))
      have e126:A0.tmps[126]?.getD undef=.int .i64 (1):=slot_is (hA.val 11 _ rfl (hr ⟨11,.data⟩ (by simp) rfl))
      rw [if_pos (FreeG.wanted_yes rfl rfl rfl eg)]
      simp [go_sem,e126]
      exact hK _ _ hA.c rfl
     ·intro listed A0 W hA hr K hK
      have e123:A0.tmps[123]?.getD undef=.bool true:=slot_is (hA.val 8 _ rfl (hr ⟨8,.data⟩ (by simp) rfl))
      have e127:A0.tmps[127]?.getD undef=.bool true:=slot_is (hA.val 12 _ rfl (hr ⟨12,.data⟩ (by simp) rfl))
      rw [if_pos (FreeG.wanted_plain rfl)]
      simp [go_sem,e123,e127]
      exact hK _ _ hA.c rfl
     ·intro listed A0 W hA hr K hK
      have e128:A0.tmps[128]?.getD undef=.bool true:=slot_is (hA.val 13 _ rfl (hr ⟨13,.data⟩ (by simp) rfl))
      rw [if_pos (FreeG.wanted_plain rfl)]
      simp [go_sem,e128]
      exact hK _ _ hA.c rfl
     ·intro listed A0 W hA hr K hK
      have eg:A0.tmps[129]?.getD undef=.bool true:=slot_is (hA.val 14 _ rfl (hr ⟨14,.guard⟩ (by simp) rfl))
      rw [if_pos (FreeG.wanted_yes rfl rfl rfl eg)]
      simp [go_sem]
      refine ((HF W).mono fun e' w' h=>(⟨h.1,hA.c.later h.2⟩:_∧Dk.Sep wB w' [Dk.diskI d s1,PL g d t1 l1 1 g1,Dk.refI q s1,logI 121 g2 q t1 l1 1 g1])).mono ?_
      rintro e' w' ⟨rfl,hb⟩
      exact hK _ _ hb rfl
     ·intro listed A0 W hA hr K hK
      have e129:A0.tmps[129]?.getD undef=.bool true:=slot_is (hA.val 14 _ rfl (hr ⟨14,.data⟩ (by simp) rfl))
      have e130:A0.tmps[130]?.getD undef=.bool true:=slot_is (hA.val 15 _ rfl (hr ⟨15,.data⟩ (by simp) rfl))
      rw [if_pos (FreeG.wanted_plain rfl)]
      simp [go_sem,e129,e130]
      exact hK _ _ hA.c rfl
     ·intro listed A0 W hA hr K hK
      have e131:A0.tmps[131]?.getD undef=.bool true:=slot_is (hA.val 16 _ rfl (hr ⟨16,.data⟩ (by simp) rfl))
      rw [if_pos (FreeG.wanted_plain rfl)]
      simp [go_sem,e131]
      exact hK _ _ hA.c rfl
    ·intro A0 W9 hA
     have s6:A0.tmps.getD 6 undef=.bool true:=hA.val 17 _ rfl rfl
     have hsz:=hA.slots
     have hde:=hA.defers
     have BE:=Lib.hid (BBA.out.trans (hA.c.below.mono BBA.out.size))
     clear hA
     obtain ⟨tm,de⟩:=A0
     simp only at s6 hsz hde
     obtain ⟨y,hy,ee⟩:=arrF132 hsz
     have t6:y 6=.bool true:=(hy 6).symm.trans s6
     rw [t6] at ee
     clear s6 hsz hy t6
     subst ee hde
     go_wp2_with fail
     go_ret
     exact ⟨rfl,BE.out⟩
end Go.Proofs.YtdpmjlbkojhooaaGreat.Lg
