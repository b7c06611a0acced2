/- A part. -/
import Derived.Test.YtdpmjlbkojhooaaGreatQLgX
import Derived.Test.YtdpmjlbkojhooaaGreatQLhN
import Derived.Test.YtdpmjlbkojhooaaGreatQLhP
import Derived.ProofKit
import Derived.OpenShut
namespace Go.Proofs.YtdpmjlbkojhooaaGreat.Lg
open Go.ChangeShapes Go.WideShapes Go.ChangeAt Go.RowKit Go.Lib Go.Joins Go.Deep
open Tb (Tab TIn Sl okP csT lastN nth Fresh)
open Dk (St Only Grew)
set_option linter.unusedVariables false
set_option maxRecDepth 100000
theorem trod_float {H:Type} {enc:TypeId × Value→H} {P:Program} {w:World} {base:Nat} {spare:Nat→Bool} {held:Bool} {fuel:Nat} {t:TypeId} {cs:List Value} {x:DataW H × List MemPlace} {k:FloatKind}
 (ht:P.underlying t=some (.float k)) (h:DataW.trod enc P w base spare held fuel t cs=some x):∃ n,cs=[.float k n]∧x=(.lit (.float k n),[])∧(Lit.float k n).wf=true:=by
 cases fuel with
 | zero=>simp [DataW.trod] at h
 | succ n =>
   unfold DataW.trod at h
   rw [ht] at h
   split at h <;> simp_all
theorem f64_of {n:Nat} (h:(Lit.float .f64 n).wf=true):n<18446744073709551616:=by
 simpa [Lit.wf] using h
theorem i64_of {n:Int} (h:(Lit.int .i64 n).wf=true):-9223372036854775808≤n∧n≤9223372036854775807:=by
 simp [Lit.wf] at h
 exact ⟨h.1,h.2⟩
section
variable {H:Type} {enc:TypeId × Value→H} {W:World}
theorem array4 {α:Type} {cs:Array α} (h:cs.size=4):∃ c0 c1 c2 c3,cs=#[c0,c1,c2,c3]:=by
 obtain ⟨l⟩:=cs
 match l,h with
 | [c0,c1,c2,c3],_=>exact ⟨c0,c1,c2,c3,rfl⟩
theorem array2 {α:Type} {cs:Array α} (h:cs.size=2):∃ c0 c1,cs=#[c0,c1]:=by
 obtain ⟨l⟩:=cs
 match l,h with
 | [c0,c1],_=>exact ⟨c0,c1,rfl⟩
theorem open_conf {b0:Nat} {r' : Reach} {v:Value} {y:DataW H} {ps:List MemPlace}
 (hv:Value.okWide Tryz.prog W r' b0 24 v) (h:DataW.Trod enc Tryz.prog W 0 (fun _=>true) true 24 v y ps) :
 ∃ (sg sl:Int) (x:Nat) (rt:Int),v=.agg #[.int .i64 sg,.int .i64 sl,.float .f64 x,.int .i64 rt]∧x<18446744073709551616:=by
 obtain ⟨cs,rfl,hsz⟩:=okWide_struct Tryz.underlying24 hv
 obtain ⟨c0,c1,c2,c3,rfl⟩:=array4 (hsz.trans (by kernel_rfl))
 obtain ⟨fuel,hf⟩:=h
 obtain ⟨xs,n,_,_,_,hlen,hff⟩:=DataW.trod_struct Tryz.underlying24 (by simpa [Value.cells] using hf)
 match xs,hlen with
 | [y0,y1,y2,y3],_ =>
   have k1:Tryz.prog.cellsOf 3=1:=by kernel_rfl
   have k2:Tryz.prog.cellsOf 22=1:=by kernel_rfl
   have g0:=hff 0 _ rfl
   have g1:=hff 1 _ rfl
   have g2:=hff 2 _ rfl
   have g3:=hff 3 _ rfl
   simp [k1,k2] at g0 g1 g2 g3
   obtain ⟨K,e0,_,w0⟩:=DataW.trod_int Tryz.underlying3 g0
   obtain ⟨G,e1,_,w1⟩:=DataW.trod_int Tryz.underlying3 g1
   obtain ⟨F,e2,_,w2⟩:=trod_float Tryz.underlying22 g2
   obtain ⟨R,e3,_,w3⟩:=DataW.trod_int Tryz.underlying3 g3
   simp at e0 e1 e2 e3
   subst e0 e1 e2 e3
   exact ⟨K,G,F,R,rfl,f64_of w2⟩
theorem trod_lops {fuel:Nat} {v:Value} {x:DataW H × List MemPlace} (hf:DataW.trod enc Tryz.prog W 0 (fun _=>true) true fuel 25 [v]=some x) :
 ∃ (A:Option Addr) (n c:Nat) (f:Nat→LOp),v=.slice A n c∧n≤maxLen∧LopsIn W A n f:=by
 have ht:=Tryz.underlying25
 have hca:Tryz.prog.cellsOf 48=10:=by kernel_rfl
 rcases open_slice ht hf with ⟨h0,_⟩ | ⟨ad,n,cap,m,q,D,Pl,hcs,_,hl,hm,hmm,_,hi⟩
 ·obtain rfl:v=.slice none 0 0:=by simpa using h0
  exact ⟨none,0,0,fun _=>default,rfl,Nat.zero_le _,fun j hj=>absurd hj (by omega),fun h=>absurd h (by omega)⟩
 ·obtain rfl:v=.slice (some ad) n cap:=by simpa using hcs
  simp only [if_true] at hmm
  subst hmm
  rw [hca] at hi
  have hx:∀ j,j<n→∃ z:LOp,z.Ok∧∀ i,i<10→W.cell? ((ad.add (j*10)).add i)=z.cells[i]?:=fun j hj=>by
   obtain ⟨cs',hc',ht'⟩:=hi j (by omega)
   obtain ⟨_,hcl,hat⟩:=World.cells?_some hc'
   exact lop_at hcl (fun i hi=>hat i hi) ht'
  obtain ⟨z,hz⟩:=choose_lt (α:=LOp) hx
  refine ⟨some ad,n,m,z,rfl,Nat.le_trans hl hm,fun j hj=>(hz j hj).1,fun hn=>?_⟩
  have h0:=(hz 0 (by omega)).2 0 (by omega)
  have ha0:(ad.add (0*10)).add 0=ad:=by unfold Addr.add; simp
  rw [ha0] at h0
  obtain ⟨e1,e2⟩:=spot_none h0
  refine ⟨ad.block,ad.off,by rw [← e1],e2,fun j hj i hi=>?_⟩
  have c0:=(hz j hj).2 i hi
  rw [e1] at c0
  simp only [Addr.add_mid,Nat.add_assoc] at c0
  simp only [Nat.add_assoc]
  exact c0
theorem open_calls {b0:Nat} {r' : Reach} {v:Value} {y:DataW H} {ps:List MemPlace}
 (hv:Value.okWide Tryz.prog W r' b0 27 v) (h:DataW.Trod enc Tryz.prog W 0 (fun _=>true) true 27 v y ps) :
 ∃ (L:Option Addr) (N c:Nat) (lim:Int) (f:Nat→LOp),v=.agg #[.slice L N c,.int .i64 lim]∧(-9223372036854775808≤lim∧lim≤9223372036854775807)∧N≤maxLen∧LopsIn W L N f:=by
 obtain ⟨cs,rfl,hsz⟩:=okWide_struct Tryz.underlying27 hv
 obtain ⟨c0,c1,rfl⟩:=array2 (hsz.trans (by kernel_rfl))
 obtain ⟨fuel,hf⟩:=h
 obtain ⟨xs,n,_,_,_,hlen,hff⟩:=DataW.trod_struct Tryz.underlying27 (by simpa [Value.cells] using hf)
 match xs,hlen with
 | [y0,y1],_ =>
   have k1:Tryz.prog.cellsOf 3=1:=by kernel_rfl
   have k2:Tryz.prog.cellsOf 25=1:=by kernel_rfl
   have g0:=hff 0 _ rfl
   have g1:=hff 1 _ rfl
   simp [k1,k2] at g0 g1
   obtain ⟨A,m,c,f,rfl,h1,h2⟩:=trod_lops g0
   obtain ⟨K,e1,_,w1⟩:=DataW.trod_int Tryz.underlying3 g1
   simp at e1
   subst e1
   exact ⟨A,m,c,K,f,rfl,i64_of w1,h1,h2⟩
end
end Go.Proofs.YtdpmjlbkojhooaaGreat.Lg
