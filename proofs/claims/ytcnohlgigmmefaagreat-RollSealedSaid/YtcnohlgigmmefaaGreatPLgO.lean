/- A part. -/
import Derived.Test.YtcnohlgigmmefaaGreatPLgY
import Derived.Test.YtcnohlgigmmefaaGreatPLhN
import Derived.Deep.LoopGhost
import Derived.StillTailTactics
import Derived.WalkSmall
import Derived.ProofKit
import Derived.OpenShut
import Derived.Lib.SmallJoins
namespace Go.Proofs.YtcnohlgigmmefaaGreat.Lg
open Go.RowKit Go.Lib
open Tb (Tab TIn Sl okP csT lastN nth Fresh)
open Dk (St Only Grew)
set_option linter.unusedVariables false
set_option maxRecDepth 100000
def smG (sg sl:Int) (x:Nat) (rt:Int):Int:=if Ck.MayC sg sl x rt then 4+sg%3 else sg
def smL (sg sl:Int) (x:Nat) (rt:Int):Int:=if Ck.MayC sg sl x rt then 1+sl%5 else sl
theorem small_may {sg sl rt:Int} {x:Nat} (h:Ck.MayC sg sl x rt):Ck.MayC (smG sg sl x rt) (smL sg sl x rt) x rt∧smG sg sl x rt≤6∧smL sg sl x rt≤5:=by
 unfold smG smL
 rw [if_pos h,if_pos h]
 obtain ⟨h1,h2,h3,h4⟩:=h
 exact ⟨⟨by omega,by omega,h3,h4⟩,by omega,by omega⟩
theorem small_not {sg sl rt:Int} {x:Nat} (h:¬ Ck.MayC sg sl x rt):¬ Ck.MayC (smG sg sl x rt) (smL sg sl x rt) x rt:=by
 unfold smG smL
 rw [if_neg h,if_neg h]
 exact h
set_option maxHeartbeats 4000000 in
theorem small_any (sg sl rt:Int) (x:Nat) (w:World) (hx:x<18446744073709551616) :
 Calls Tryz.prog 10 #[.agg #[.int .i64 sg,.int .i64 sl,.float .f64 x,.int .i64 rt]] w fun e w'=>e=.returned (.agg #[.int .i64 (smG sg sl x rt),.int .i64 (smL sg sl x rt),.float .f64 x,.int .i64 rt])∧Below w.heap.size w w':=by
 have hvC:=Tryz.zeroValue24
 have N1:Tb.Blk (w.alloc (.cells (csF sg sl x rt) 24)) w.heap.size 24 (csF sg sl x rt):=Tb.Blk.new w _ _
 have bb1:=Tb.below1 w (.cells (csF sg sl x rt) 24)
 have N2:Tb.Blk ((w.alloc (.cells (csF sg sl x rt) 24)).alloc (.cells (csF 0 0 0 0) 24)) (w.heap.size+1) 24 (csF 0 0 0 0):=by
  have:=Tb.Blk.new (w.alloc (.cells (csF sg sl x rt) 24)) 24 (csF 0 0 0 0)
  rw [show (w.alloc (.cells (csF sg sl x rt) 24)).heap.size=w.heap.size+1 by simp] at this
  exact this
 have bb2:=bb1.trans ((Tb.below1 (w.alloc (.cells (csF sg sl x rt) 24)) (.cells (csF 0 0 0 0) 24)).mono bb1.size)
 have N1:=N1.later (Tb.below1 _ (.cells (csF 0 0 0 0) 24))
 go_enter Tryz.func10,Tryz.ntmps10
 go_upto_region 1 with (fail)
 change Code.wp _ _ _ _ ((w.alloc (.cells (csF sg sl x rt) 24)).alloc (.cells (csF 0 0 0 0) 24))
 generalize (w.alloc (.cells (csF sg sl x rt) 24)).alloc (.cells (csF 0 0 0 0) 24)=w1 at *
 clear hvC bb1
 by_cases hm:Ck.MayC sg sl x rt
 case neg =>
  have HC:=Lib.hid (fun w=>Ck.R4.may_no sg sl rt x w hx hm)
  have E1:=Lib.hid (show smG sg sl x rt=sg from if_neg hm)
  have E2:=Lib.hid (show smL sg sl x rt=sl from if_neg hm)
  clear hm
  go_wp2_with (with_reducible refine load_cf rfl (.tmp 1) rfl w.heap.size rfl N1 ?_)
  refine (HC.out _).mono ?_
  rintro e' w2 ⟨rfl,hb⟩
  have M1:=N1.later hb
  have M2:=N2.later hb
  have BB:=Lib.hid (bb2.trans (hb.mono bb2.size))
  clear hb HC bb2 N1 N2
  go_wp2_with (first
   | (with_reducible refine load_cf rfl (.tmp 1) rfl w.heap.size rfl M1 ?_)
   | (with_reducible refine store_cf rfl (.tmp 2) (.tmp 15) rfl (w.heap.size+1) rfl rfl M2 ?_))
  exact bodyPost_ret (res_cf rfl _ _ (w.heap.size+1) rfl (M2.row _)) rfl ⟨by rw [E1.out,E2.out],Tb.below_row BB.out (by omega) _⟩
 have HC:=Lib.hid (fun w=>Ck.R4.may_yes sg sl rt x w hm)
 have HB:=Lib.hid (And.intro hm.1 hm.2.1)
 obtain ⟨G,EG⟩:∃ z,sg.tmod 3=z:=⟨_,rfl⟩
 obtain ⟨L,EL⟩:∃ z,sl.tmod 5=z:=⟨_,rfl⟩
 have HG:Hid (sg%3=G):=Lib.hid (by rw [← EG,Int.tmod_eq_emod_of_nonneg (by have:=HB.out; omega)])
 have HL:Hid (sl%5=L):=Lib.hid (by rw [← EL,Int.tmod_eq_emod_of_nonneg (by have:=HB.out; omega)])
 have bG:0≤G∧G<3:=by have:=HG.out; omega
 have bL:0≤L∧L<5:=by have:=HL.out; omega
 have E1:Hid (smG sg sl x rt=4+G):=Lib.hid (by rw [← HG.out]; exact if_pos hm)
 have E2:Hid (smL sg sl x rt=1+L):=Lib.hid (by rw [← HL.out]; exact if_pos hm)
 clear hm
 go_wp2_with (with_reducible refine load_cf rfl (.tmp 1) rfl w.heap.size rfl N1 ?_)
 refine (HC.out _).mono ?_
 rintro e' w2 ⟨rfl,hb⟩
 have M1:=N1.later hb
 have M2:=N2.later hb
 have BB:=Lib.hid (bb2.trans (hb.mono bb2.size))
 have c0:w2.cell? ⟨w.heap.size,0,none⟩=some (.int .i64 sg):=M1.cell 0
 have c0f:=M1.frozen 0
 clear hb HC bb2 N1 N2
 go_upto_region 3 with fail
 rw [set_row M1]
 have M1a:=M1.row ((csF sg sl x rt).setIfInBounds 0 (.int .i64 (4+G)))
 have M2a:Tb.Blk (w2.setRow w.heap.size ((csF sg sl x rt).setIfInBounds 0 (.int .i64 (4+G)))) (w.heap.size+1) 24 (csF 0 0 0 0):=(setRow_other w2 w.heap.size (w.heap.size+1) _ (by omega)).trans M2
 have BA:=Lib.hid (Tb.below_row BB.out (Nat.le_refl _) ((csF sg sl x rt).setIfInBounds 0 (.int .i64 (4+G))))
 change Tb.Blk _ _ _ (csF (4+G) sl x rt) at M1a
 generalize w2.setRow w.heap.size ((csF sg sl x rt).setIfInBounds 0 (.int .i64 (4+G)))=w3 at *
 clear M1 M2 BB c0 c0f
 have c1:w3.cell? ⟨w.heap.size,1,none⟩=some (.int .i64 sl):=M1a.cell 1
 have c1f:=M1a.frozen 1
 go_upto_region 4 with fail
 rw [set_row M1a]
 have M1b:=M1a.row ((csF (4+G) sl x rt).setIfInBounds 1 (.int .i64 (1+L)))
 have M2b:Tb.Blk (w3.setRow w.heap.size ((csF (4+G) sl x rt).setIfInBounds 1 (.int .i64 (1+L)))) (w.heap.size+1) 24 (csF 0 0 0 0):=(setRow_other w3 w.heap.size (w.heap.size+1) _ (by omega)).trans M2a
 have BC:=Lib.hid (Tb.below_row BA.out (Nat.le_refl _) ((csF (4+G) sl x rt).setIfInBounds 1 (.int .i64 (1+L))))
 change Tb.Blk _ _ _ (csF (4+G) (1+L) x rt) at M1b
 generalize w3.setRow w.heap.size ((csF (4+G) sl x rt).setIfInBounds 1 (.int .i64 (1+L)))=w4 at *
 clear M1a M2a BA c1 c1f
 go_wp2_with (first
  | (with_reducible refine load_cf rfl (.tmp 1) rfl w.heap.size rfl M1b ?_)
  | (with_reducible refine store_cf rfl (.tmp 2) (.tmp 15) rfl (w.heap.size+1) rfl rfl M2b ?_))
 exact bodyPost_ret (res_cf rfl _ _ (w.heap.size+1) rfl (M2b.row _)) rfl ⟨by rw [E1.out,E2.out],Tb.below_row BC.out (by omega) _⟩
end Go.Proofs.YtcnohlgigmmefaaGreat.Lg
namespace Go.Proofs.YtcnohlgigmmefaaGreat.Lg
open Go.RowKit Go.Lib
set_option linter.unusedVariables false
set_option maxRecDepth 100000
namespace Lg
open Go.RowKit Go.Lib
open Tb (Tab TIn Sl okP csT lastN nth Fresh)
open Dk (St Only Grew)
set_option linter.unusedVariables false
set_option maxRecDepth 100000
inductive Ce where
 | any
 | is (v:Value)
 | len (n:Nat)
def Ce.p:Ce→World→Value→Prop
 | .any=>fun _ _=>True
 | .is v=>fun _ u=>u=v
 | .len n=>fun _ u=>∃ A c,u=.slice A n c
theorem fmt_p {n sg sl rt:Int} {x:Nat} {S:ByteArray} (hn:1≤n∧n≤4096) (hS:S.size=128) (h:fmtE (St.new n) sg sl x rt S=0):LogP 0 (Tb.newT sg sl 1) (fmtD (St.new n) sg sl x rt S) 1 1:=by
 unfold fmtE at h
 unfold fmtD
 split at h
 ·rename_i hm
  rw [if_pos hm]
  split at h
  ·exact absurd h (by decide)
  ·rename_i hz
   rw [if_neg hz]
   have hsz:(St.new n).size=n:=rfl
   have hsc:2+sg*(sl+1)≤n:=by
    have:=hz
    unfold Ck.scC at this
    rw [if_pos hm] at this
    omega
   have h2:2≤n:=by
    have:=Int.mul_nonneg (show 0≤sg by have:=hm.1; omega) (show 0≤sl+1 by have:=hm.2.1; omega)
    omega
   have g0:=Dk.St.Good.new hn.1 hn.2
   unfold chkS at h ⊢
   split at h
   ·exact absurd h (by simp)
   ·rename_i d0
    rw [if_neg d0]
    split at h
    ·exact absurd h (by simp)
    ·rename_i d1
     rw [if_neg d1]
     split at h
     ·exact absurd h (by simp)
     ·rename_i d2
      rw [if_neg d2]
      have g1:=((g0.flush d0).write d1 (i:=(0+1)%2) (x:=S) ⟨by decide,by show (0+1)%2<n; omega⟩ hS).flush d2
      exact ⟨Tb.new_ok (may_size hm),hsc,g1,by decide,by decide,by decide,by decide,by show ([]:List (Int × ByteArray)).length≤_; simp⟩
 ·exact absurd h (by decide)
end Lg
namespace Lg
open Go.RowKit Go.Lib
open Tb (Tab TIn Sl okP csT lastN nth Fresh)
open Dk (St Only Grew)
set_option linter.unusedVariables false
set_option maxRecDepth 100000
def bC (x:UInt8):ByteArray:=⟨#[x]⟩
def bE:ByteArray:=⟨#[]⟩
theorem fix_okR (l k v d:Int) (x:UInt8) (hl:l≠0) (h:Rc.okR ⟨1,1,k,v,d,[x],[118]⟩=true):Rc.okR ⟨l,1,k,v,d,(bC x).data.toList,(bC 118).data.toList⟩=true:=okR_lsn h hl
end Lg
namespace Lg
open Go.ChangeShapes Go.WideShapes Go.ChangeAt Go.RowKit Go.Lib Go.Joins Go.Deep
open Tb (Tab TIn Sl okP csT lastN nth Fresh)
open Dk (St Only Grew)
set_option linter.unusedVariables false
set_option maxRecDepth 100000
theorem trod_float {H:Type} {enc:TypeId × Value→H} {P:Program} {w:World} {base:Nat} {spare:Nat→Bool} {held:Bool} {fuel:Nat} {t:TypeId} {cs:List Value} {x:DataW H × List MemPlace} {k:FloatKind}
 (ht:P.underlying t=some (.float k)) (h:DataW.trod enc P w base spare held fuel t cs=some x):∃ n,cs=[.float k n]∧x=(.lit (.float k n),[])∧(Lit.float k n).wf=true:=by
 cases fuel with
 | zero=>simp [DataW.trod] at h
 | succ n =>
   unfold DataW.trod at h
   rw [ht] at h
   split at h <;> simp_all
theorem f64_of {n:Nat} (h:(Lit.float .f64 n).wf=true):n<18446744073709551616:=by
 simpa [Lit.wf] using h
theorem i64_of {n:Int} (h:(Lit.int .i64 n).wf=true):-9223372036854775808≤n∧n≤9223372036854775807:=by
 simp [Lit.wf] at h
 exact ⟨h.1,h.2⟩
section
variable {H:Type} {enc:TypeId × Value→H} {W:World}
theorem array4 {α:Type} {cs:Array α} (h:cs.size=4):∃ c0 c1 c2 c3,cs=#[c0,c1,c2,c3]:=by
 obtain ⟨l⟩:=cs
 match l,h with
 | [c0,c1,c2,c3],_=>exact ⟨c0,c1,c2,c3,rfl⟩
theorem array2 {α:Type} {cs:Array α} (h:cs.size=2):∃ c0 c1,cs=#[c0,c1]:=by
 obtain ⟨l⟩:=cs
 match l,h with
 | [c0,c1],_=>exact ⟨c0,c1,rfl⟩
theorem open_conf {b0:Nat} {r' : Reach} {v:Value} {y:DataW H} {ps:List MemPlace}
 (hv:Value.okWide Tryz.prog W r' b0 24 v) (h:DataW.Trod enc Tryz.prog W 0 (fun _=>true) true 24 v y ps) :
 ∃ (sg sl:Int) (x:Nat) (rt:Int),v=.agg #[.int .i64 sg,.int .i64 sl,.float .f64 x,.int .i64 rt]∧x<18446744073709551616:=by
 obtain ⟨cs,rfl,hsz⟩:=okWide_struct Tryz.underlying24 hv
 obtain ⟨c0,c1,c2,c3,rfl⟩:=array4 (hsz.trans (by kernel_rfl))
 obtain ⟨fuel,hf⟩:=h
 obtain ⟨xs,n,_,_,_,hlen,hff⟩:=DataW.trod_struct Tryz.underlying24 (by simpa [Value.cells] using hf)
 match xs,hlen with
 | [y0,y1,y2,y3],_ =>
   have k1:Tryz.prog.cellsOf 3=1:=by kernel_rfl
   have k2:Tryz.prog.cellsOf 22=1:=by kernel_rfl
   have g0:=hff 0 _ rfl
   have g1:=hff 1 _ rfl
   have g2:=hff 2 _ rfl
   have g3:=hff 3 _ rfl
   simp [k1,k2] at g0 g1 g2 g3
   obtain ⟨K,e0,_,w0⟩:=DataW.trod_int Tryz.underlying3 g0
   obtain ⟨G,e1,_,w1⟩:=DataW.trod_int Tryz.underlying3 g1
   obtain ⟨F,e2,_,w2⟩:=trod_float Tryz.underlying22 g2
   obtain ⟨R,e3,_,w3⟩:=DataW.trod_int Tryz.underlying3 g3
   simp at e0 e1 e2 e3
   subst e0 e1 e2 e3
   exact ⟨K,G,F,R,rfl,f64_of w2⟩
end
end Lg
namespace Lg
open Go.RowKit Go.Lib
open Tb (Tab TIn Sl okP csT lastN nth Fresh)
open Dk (St Only Grew)
set_option linter.unusedVariables false
set_option maxRecDepth 100000
def S0:ByteArray:=⟨(Cp.secL ⟨1,1,1,0,[0],[0]⟩).toArray⟩
theorem S0_eq:Cp.secL ⟨1,1,1,0,[0],[0]⟩=S0.data.toList:=by simp [S0]
theorem S0_size:S0.size=128:=(size_of S0_eq).trans (by rw [Cp.secL_len]; exact okC_of (t:=Tb.newT 4 1 1) (Tb.new_ok rfl) (by decide) (by decide))
theorem chk_free {s:St} (hs:s.set=false) (gn:Int) (S:ByteArray):chkS s gn S=((s.flush.write ((gn+1)%2) S).flush,gn+1,0):=by
 unfold chkS
 rw [if_neg (not_dead hs),if_neg (not_dead (s:=s.flush) hs),if_neg (not_dead (s:=s.flush.write ((gn+1)%2) S) hs)]
def nD (G Z:Int) (x:Nat) (rt:Int):St:=fmtD (St.new (Ck.scC G Z x rt)) G Z x rt S0
structure NewL (G Z:Int) (s:St) (t:Tab):Prop where
 p:LogP 0 t s 1 1
 set:s.set=false
 pend:s.pend=[]
 fill:Fill t 1 1 0
 st:t.st=Z
 sg:t.sg=G
 z:1≤Z∧Z≤5
 g:4≤G∧G≤6
 size:s.size=2+G*(Z+1)
theorem sc_may {G Z rt:Int} {x:Nat} (hm:Ck.MayC G Z x rt):Ck.scC G Z x rt=2+G*(Z+1):=by
 unfold Ck.scC
 rw [if_pos hm]
theorem may_bd {G Z rt:Int} {x:Nat} (hm:Ck.MayC G Z x rt) (hG:G≤6) (hZ:Z≤5):(1≤Z∧Z≤5)∧(4≤G∧G≤6):=by
 obtain ⟨h1,h2,_⟩:=hm
 exact ⟨⟨by omega,hZ⟩,by omega,hG⟩
theorem sc_bd {G Z rt:Int} {x:Nat} (hm:Ck.MayC G Z x rt) (hG:G≤6) (hZ:Z≤5):1≤Ck.scC G Z x rt∧Ck.scC G Z x rt≤4096:=by
 rw [sc_may hm]
 obtain ⟨h1,h2⟩:=may_bd hm hG hZ
 have a1:=Int.mul_nonneg (show 0≤G by omega) (show 0≤Z+1 by omega)
 have a2:=Int.mul_le_mul (show G≤6 by omega) (show Z+1≤6 by omega) (by omega) (by omega)
 omega
theorem new_yes {G Z rt:Int} {x:Nat} (hm:Ck.MayC G Z x rt) (hG:G≤6) (hZ:Z≤5):fmtE (St.new (Ck.scC G Z x rt)) G Z x rt S0=0∧NewL G Z (nD G Z x rt) (Tb.newT G Z 1):=by
 have hs:¬ (St.new (Ck.scC G Z x rt)).size<Ck.scC G Z x rt:=by show ¬ Ck.scC G Z x rt<Ck.scC G Z x rt; omega
 have e0:fmtE (St.new (Ck.scC G Z x rt)) G Z x rt S0=0:=by
  unfold fmtE
  rw [if_pos hm,if_neg hs,chk_free rfl]
 have e1:nD G Z x rt=(((St.new (Ck.scC G Z x rt)).flush.write ((0+1)%2) S0).flush):=by
  unfold nD fmtD
  rw [if_pos hm,if_neg hs,chk_free rfl]
 obtain ⟨h1,h2⟩:=may_bd hm hG hZ
 refine ⟨e0,fmt_p (sc_bd hm hG hZ) S0_size e0,by rw [e1]; rfl,by rw [e1]; rfl,fill_new G Z h1.1,rfl,rfl,h1,h2,?_⟩
 rw [e1]
 exact sc_may hm
section
variable {t:Tab} {s:St} {ls ep K V D:Int} {I X:ByteArray}
theorem app_same2 (hnd:¬ s.dead) (hr:0<Tb.roomT t) (hK:K≠3) (hR:Rc.okR ⟨ls,ep,K,V,D,I.data.toList,X.data.toList⟩=true) (hl:lastN t.l≠t.st) :
 appS t s ls ep K V D I X=(s.write (Tb.sectorT t.st (lastN t.o) (lastN t.l)) (secB ⟨ls,ep,K,V,D,I.data.toList,X.data.toList⟩),Tb.countedT t,ls+1,lastN t.o,lastN t.l,0):=by
 have E:sealIf t s ls ep=(s,t,ls,0):=if_neg hl
 unfold appS
 rw [if_neg (by rw [hR]; simp [hK]),if_neg (by omega),E]
 simp only
 rw [if_neg (by decide)]
 unfold appS.putS
 rw [if_neg hnd]
theorem app_roll2 {f:Int} {l:List Int} (hnd:¬ s.dead) (hnd2:∀ i S,¬ (s.write i S).dead) (hr:0<Tb.roomT t) (hK:K≠3) (hR:Rc.okR ⟨ls,ep,K,V,D,I.data.toList,X.data.toList⟩=true) (hl:lastN t.l=t.st) (hf:Tb.freeT t=f :: l) :
 appS t s ls ep K V D I X=((s.write (Tb.sectorT t.st (lastN t.o) (lastN t.l)) (footB t ls ep)).write (Tb.sectorT t.st f 0) (secB ⟨ls+1,ep,K,V,D,I.data.toList,X.data.toList⟩),Tb.countedT (Tb.openedT t f (ls+1)),ls+2,f,0,0):=by
 have E:sealIf t s ls ep=(s.write (Tb.sectorT t.st (lastN t.o) (lastN t.l)) (footB t ls ep),Tb.openedT t f (ls+1),ls+1,0):=by
  unfold sealIf
  rw [if_pos hl]
  unfold sealS
  simp only [hf]
  rw [if_neg hnd]
 have e1:lastN (Tb.openedT t f (ls+1)).o=f:=Tb.last_app ..
 have e2:lastN (Tb.openedT t f (ls+1)).l=0:=Tb.last_app ..
 unfold appS
 rw [if_neg (by rw [hR]; simp [hK]),if_neg (by omega),E]
 simp only
 rw [if_neg (by decide)]
 unfold appS.putS
 rw [if_neg (hnd2 _ _),e1,e2,show ls+1+1=ls+2 by omega]
 rfl
theorem app_dead1 (hd:s.dead) (hr:0<Tb.roomT t) (hK:K≠3) (hR:Rc.okR ⟨ls,ep,K,V,D,I.data.toList,X.data.toList⟩=true) (hf:lastN t.l=t.st→∃ f l,Tb.freeT t=f :: l):(appS t s ls ep K V D I X).2.2.2.2.2=9:=by
 unfold appS
 rw [if_neg (by rw [hR]; simp [hK]),if_neg (by omega)]
 by_cases hl:lastN t.l=t.st
 ·obtain ⟨f,l,hf⟩:=hf hl
  have E:sealIf t s ls ep=(s,t,ls,9):=by
   unfold sealIf
   rw [if_pos hl]
   unfold sealS
   simp only [hf]
   rw [if_pos hd]
  rw [E]
  rfl
 ·have E:sealIf t s ls ep=(s,t,ls,0):=if_neg hl
  rw [E]
  simp only
  rw [if_neg (by decide)]
  unfold appS.putS
  rw [if_pos hd]
theorem app_dead2 {f:Int} {l:List Int} (hnd:¬ s.dead) (hnd2:∀ i S,(s.write i S).dead) (hr:0<Tb.roomT t) (hK:K≠3) (hR:Rc.okR ⟨ls,ep,K,V,D,I.data.toList,X.data.toList⟩=true) (hl:lastN t.l=t.st) (hf:Tb.freeT t=f :: l):(appS t s ls ep K V D I X).2.2.2.2.2=9:=by
 have E:sealIf t s ls ep=(s.write (Tb.sectorT t.st (lastN t.o) (lastN t.l)) (footB t ls ep),Tb.openedT t f (ls+1),ls+1,0):=by
  unfold sealIf
  rw [if_pos hl]
  unfold sealS
  simp only [hf]
  rw [if_neg hnd]
 unfold appS
 rw [if_neg (by rw [hR]; simp [hK]),if_neg (by omega),E]
 simp only
 rw [if_neg (by decide)]
 unfold appS.putS
 rw [if_pos (hnd2 _ _)]
end
structure Run (G Z:Int) (i:Nat) (t:Tab) (s:St) (ls:Int):Prop where
 p:LogP (2*i) t s ls 1
 g:4≤G∧G≤6
 z:1≤Z∧Z≤5
 st:t.st=Z
 sg:t.sg=G
 used:Tb.usedT t=i
 room:Tb.roomT t=G*Z-i
 fill:∃ j x,Fill t ls j x∧(x=0→j=1)∧s.pend.length=i+(j-1)
theorem run_new {G Z:Int} {s:St} {t:Tab} (h:NewL G Z s t):Run G Z 0 t s 1:=by
 have e1:=h.fill.room
 have e2:=h.fill.used
 rw [h.st,h.sg] at e1
 rw [h.st] at e2
 refine ⟨h.p,h.g,h.z,h.st,h.sg,by rw [e2]; simp,?_,1,0,h.fill,fun _=>rfl,by rw [h.pend]; rfl⟩
 rw [e1,Int.mul_sub,Int.mul_comm G Z]
 omega
theorem dvd_off {a b z:Int} (hz:1≤z) (ha:0≤a) (hb0:0≤b) (hb:b<z) (h:(a*z+b).tmod z=0):b=0:=by
 have hn:0≤a*z+b:=by have:=Int.mul_nonneg ha (show 0≤z by omega); omega
 rw [Int.tmod_eq_emod_of_nonneg hn,Int.add_comm,Int.add_mul_emod_self_right,Int.emod_eq_of_lt hb0 hb] at h
 exact h
section
variable {G Z:Int} {i:Nat} {t:Tab} {s:St} {ls:Int}
theorem Run.full (h:Run G Z i t s ls):lastN t.l=t.st↔(0<(i:Int)∧(i:Int).tmod Z=0):=by
 obtain ⟨j,x,hf,hx,hp⟩:=h.fill
 have hl:=hf.lasts
 have hu:=hf.used
 have hu2:=h.used
 have hx1:=hf.x1
 have hj:=hf.j1
 have hz:=h.z
 rw [h.st] at hu hx1 ⊢
 rw [hl.2]
 constructor
 ·intro e
  rw [e] at hu
  have e1:(i:Int)=j*Z:=by rw [← hu2,hu,Int.sub_mul,Int.one_mul]; omega
  have e2:Z≤(j:Int)*Z:=by
   have:=Int.mul_le_mul_of_nonneg_right (show (1:Int)≤j by omega) (show 0≤Z by omega)
   rw [Int.one_mul] at this
   exact this
  exact ⟨by omega,by rw [e1]; exact Int.mul_tmod_left ..⟩
 ·rintro ⟨h0,hm⟩
  rcases Int.lt_or_le (x:Int) Z with hlt|hge
  ·exfalso
   rw [show (i:Int)=((j:Int)-1)*Z+x by rw [← hu2,hu]] at hm
   have hx0:=dvd_off hz.1 (by omega) (by omega) hlt hm
   have:=hx (by omega)
   subst this
   rw [hx0] at hu
   simp at hu
   omega
  ·omega
theorem Run.free (h:Run G Z i t s ls) (hi:(i:Int)<G*Z) (hl:lastN t.l=t.st):∃ f l,Tb.freeT t=f :: l:=by
 obtain ⟨j,x,hf,hx,hp⟩:=h.fill
 have h1:=hf.room
 have h2:=h.room
 rw [hf.lasts.2] at hl
 rw [hl] at h1
 have hz:=h.z
 have hst:=h.st
 have hj:(j:Int)<t.sg:=by
  rcases Int.lt_or_le (j:Int) t.sg with h3|h3
  ·exact h3
  ·have:=Int.mul_nonneg (show 0≤t.st by omega) (show 0≤(j:Int)-t.sg by omega)
   rw [show (j:Int)-t.sg = -(t.sg-j) by omega,Int.mul_neg] at this
   omega
 obtain ⟨l,e⟩:=hf.next hj
 exact ⟨_,l,e⟩
variable {K V D:Int} {I X:ByteArray}
theorem Run.dead (h:Run G Z i t s ls) (hi:(i:Int)<G*Z) (hK:K≠3) (hR:Rc.okR ⟨ls,1,K,V,D,I.data.toList,X.data.toList⟩=true) (hs:s.set=true) {n:Int} (hn:s.left=n) (hlt:n<if 0<(i:Int)∧(i:Int).tmod Z=0 then 2 else 1) :
 (appS t s ls 1 K V D I X).2.2.2.2.2=9:=by
 have hr:0<Tb.roomT t:=by have:=h.room; omega
 by_cases hd:s.dead
 ·exact app_dead1 hd hr hK hR (h.free hi)
 have hd1:¬ s.left<1:=fun e=>hd ⟨hs,e⟩
 by_cases hl:0<(i:Int)∧(i:Int).tmod Z=0
 ·rw [if_pos hl] at hlt
  obtain ⟨f,l,hf⟩:=h.free hi (h.full.2 hl)
  refine app_dead2 hd (fun i S=>⟨hs,?_⟩) hr hK hR (h.full.2 hl) hf
  show (if s.set then s.left-1 else s.left)<1
  rw [if_pos hs]
  omega
 ·rw [if_neg hl] at hlt
  omega
theorem Run.next (h:Run G Z i t s ls) (hi:(i:Int)<G*Z) (hK:K≠3) (hR:Rc.okR ⟨ls,1,K,V,D,I.data.toList,X.data.toList⟩=true) (hs:s.set=true→¬ s.left<if 0<(i:Int)∧(i:Int).tmod Z=0 then 2 else 1) :
 ∃ s1 t1 l1 sg so,appS t s ls 1 K V D I X=(s1,t1,l1,sg,so,0)∧Run G Z (i+1) t1 s1 l1∧s1.set=s.set∧(s.set=true→s1.left=s.left-if 0<(i:Int)∧(i:Int).tmod Z=0 then 2 else 1):=by
 have hr:0<Tb.roomT t:=by have:=h.room; omega
 have hA:=app_p (ep:=1) (K:=K) (V:=V) (D:=D) (I:=I) (X:=X) h.p
 have hA1:=hA.le (c':=2*(i+1)) (by omega)
 obtain ⟨j,x,hf,hx,hp⟩:=h.fill
 have hlx:=hf.x1
 have hj1:=hf.j1
 have hst:=h.st
 have hz:=h.z
 have e3:=hf.room
 have e4:=hf.used
 have r1:=h.room
 have r2:=h.used
 have hnd:¬ s.dead:=fun hd=>by
  have:=hs hd.1
  have h2:=hd.2
  split at this <;> omega
 by_cases hl:lastN t.l=t.st
 ·have hl2:=h.full.1 hl
  rw [if_pos hl2] at hs ⊢
  have hxst:(x:Int)=t.st:=hf.lasts.2.symm.trans hl
  have hjs:(j:Int)<t.sg:=by
   rw [hxst] at e3
   rcases Int.lt_or_le (j:Int) t.sg with h3|h3
   ·exact h3
   ·have:=Int.mul_nonneg (show 0≤t.st by omega) (show 0≤(j:Int)-t.sg by omega)
    rw [show (j:Int)-t.sg = -(t.sg-j) by omega,Int.mul_neg] at this
    omega
  obtain ⟨l,hfr⟩:=hf.next hjs
  have hnd2:∀ i S,¬ (s.write i S).dead:=fun i S hd=>by
   have h1:s.set=true:=hd.1
   have h2:(if s.set then s.left-1 else s.left)<1:=hd.2
   rw [if_pos h1] at h2
   have:=hs h1
   omega
  have E:=app_roll2 (ep:=1) hnd hnd2 hr hK hR hl hfr
  have F:=hf.roll hxst (by omega) (ls+1)
  rw [E] at hA1
  have e1:=F.room
  have e2:=F.used
  have f1:(Tb.countedT (Tb.openedT t j (ls+1))).st=t.st:=rfl
  have f2:(Tb.countedT (Tb.openedT t j (ls+1))).sg=t.sg:=rfl
  rw [f1,f2] at e1
  rw [f1] at e2
  refine ⟨_,_,_,_,_,E,⟨hA1,h.g,h.z,h.st,h.sg,?_,?_,j+1,1,F,fun e=>by omega,?_⟩,rfl,fun h1=>?_⟩
  ·rw [e2,show ((j+1:Nat):Int)-1=((j:Int)-1)+1 by omega,Int.add_mul,Int.one_mul]
   omega
  ·rw [e1,show t.sg-((j+1:Nat):Int)=(t.sg-j)-1 by omega,Int.mul_sub,Int.mul_one]
   omega
  ·show ((s.pend++[_])++[_]).length=_
   simp
   omega
  ·show (if s.set then (if s.set then s.left-1 else s.left)-1 else _)=_
   rw [if_pos h1,if_pos h1]
   omega
 ·have hl2:¬ (0<(i:Int)∧(i:Int).tmod Z=0):=fun e=>hl (h.full.2 e)
  rw [if_neg hl2] at hs ⊢
  have hxst:(x:Int)<t.st:=by have:=hf.lasts.2; omega
  have E:=app_same2 (ep:=1) hnd hr hK hR hl
  have F:=hf.same hxst
  rw [E] at hA1
  have e1:=F.room
  have e2:=F.used
  have f1:(Tb.countedT t).st=t.st:=rfl
  have f2:(Tb.countedT t).sg=t.sg:=rfl
  rw [f1,f2] at e1
  rw [f1] at e2
  refine ⟨_,_,_,_,_,E,⟨hA1,h.g,h.z,h.st,h.sg,by rw [e2]; omega,by rw [e1]; omega,j,x+1,F,fun e=>by omega,?_⟩,rfl,fun h1=>?_⟩
  ·show (s.pend++[_]).length=_
   simp
   omega
  ·show (if s.set then s.left-1 else s.left)=_
   rw [if_pos h1]
end
theorem Run.last {G Z ls:Int} {i:Nat} {t:Tab} {s:St} (h:Run G Z i t s ls) (hi:(i:Int)=G*Z):Tb.roomT t=0∧Tb.freeT t=[]∧ls=G*Z+G∧(s.pend.length:Int)=G*Z+G-1∧lastN t.l=t.st∧t.o=Tb.upto G.toNat:=by
 obtain ⟨j,x,hf,hx,hp⟩:=h.fill
 have r1:=h.room
 have e3:=hf.room
 have hlx:=hf.x1
 have hg:=h.g
 have hz:=h.z
 have hst:=h.st
 have hsg:=h.sg
 have hj1:=hf.j1
 have hok:=h.p.ok
 have hjG:(j:Int)≤t.sg:=by
  have:=Tb.ok_free hok
  rw [hf.o,upto_len] at this
  omega
 have h0:t.st*(t.sg-j)=0∧(x:Int)=t.st:=by
  have:=Int.mul_nonneg (show 0≤t.st by omega) (show 0≤t.sg-j by omega)
  omega
 have hjs:(j:Int)=t.sg:=by
  rcases Int.mul_eq_zero.1 h0.1 with h1|h1 <;> omega
 have hls:=hf.ls
 rw [h0.2,hjs,hst,hsg,Int.sub_mul,Int.one_mul] at hls
 refine ⟨by omega,hf.none hjs hok,by omega,by omega,hf.lasts.2.trans h0.2,?_⟩
 rw [hf.o]
 congr 1
 omega
end Lg
end Go.Proofs.YtcnohlgigmmefaaGreat.Lg
