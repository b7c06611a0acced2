/- A part. -/
import Derived.Test.YtcnohlgigmmefaaGreatPLwW
import Derived.Test.YtcnohlgigmmefaaGreatPLwT
import Derived.Laws.CopyOwn
import Derived.Deep.LoopGhost
import Derived.Deep.RegionLaw
import Derived.Deep.RegionWith
import Derived.IntWalk
import Derived.Deep.OwnRows
import Derived.Deep.DeepCutAuto
import Derived.Test.YtcnohlgigmmefaaGreatPLgB
import Derived.Test.YtcnohlgigmmefaaGreatPLwV
namespace Go.Proofs.YtcnohlgigmmefaaGreat.Ro
open Go.RowKit Go.Lib
open Tb (Blk)
set_option linter.unusedVariables false
set_option maxRecDepth 100000
theorem bmul_one (n:Nat) (hn:n<18446744073709551616) (w:World):Calls Tryz.prog 155 #[.int .u64 1,.int .u64 n] w fun e w'=>e=.returned (.tuple #[.int .u64 0,.int .u64 n])∧w=w':=by
 have C:=Wd.mul64 1 n (by omega) hn w
 rw [Nat.one_mul,Nat.div_eq_of_lt hn,Nat.mod_eq_of_lt hn] at C
 have C:=Lib.hid C
 clear hn
 go_enter Tryz.func155,Tryz.ntmps155
 go_wp2_with fail
 refine C.out.mono ?_
 rintro e' w1 ⟨rfl,rfl⟩
 go_wp2_with fail
 go_ret2
 exact ⟨rfl,rfl⟩
def fillV (x:Int) (k n:Nat):List Value:=List.replicate k (.int .u64 x)++List.replicate (n-k) (.int .u64 0)
theorem fill_len {x:Int} {k n:Nat} (h:k≤n):(fillV x k n).length=n:=by simp [fillV]; omega
theorem fill_more {x:Int} {k n:Nat} (h:k≤n):splice (fillV x k n) k (List.replicate (min k (n-k)) (Value.int .u64 x))=fillV x (k+min k (n-k)) n:=by
 apply List.ext_getElem?
 intro i
 unfold splice fillV
 have e1:∀ (a b:Nat) (u v:Value),(List.replicate a u++List.replicate b v)[i]? = if i<a then some u else if i<a+b then some v else none:=fun a b u v=>by
  rw [List.getElem?_append]
  simp only [List.length_replicate,List.getElem?_replicate]
  split
  ·rfl
  ·by_cases h1:i-a<b
   ·rw [if_pos h1,if_pos (by omega)]
   ·rw [if_neg h1,if_neg (by omega)]
 have e2:(List.replicate k (Value.int .u64 x)++List.replicate (n-k) (Value.int .u64 0)).take k=List.replicate k (Value.int .u64 x):=by simp
 have e3:(List.replicate k (Value.int .u64 x)++List.replicate (n-k) (Value.int .u64 0)).drop (k+(List.replicate (min k (n-k)) (Value.int .u64 x)).length)=List.replicate (n-(k+min k (n-k))) (.int .u64 0):=by
  rw [List.drop_append,List.length_replicate,List.length_replicate,List.drop_replicate,List.drop_replicate]
  have e:k-(k+min k (n-k))=0:=by omega
  have e' : n-k-(k+min k (n-k)-k)=n-(k+min k (n-k)):=by omega
  rw [e,e']
  rfl
 rw [e2,e3,← List.append_assoc,List.replicate_append_replicate]
theorem fill_one {x:Int} {n:Nat} (h:1≤n):splice (List.replicate n (Value.int .u64 0)) 0 [.int .u64 x]=fillV x 1 n:=by
 obtain ⟨m,rfl⟩:∃ m,n=m+1:=⟨n-1,by omega⟩
 simp [splice,fillV,List.replicate_succ]
theorem fill_all {x:Int} {n:Nat}:fillV x n n=List.replicate n (.int .u64 x):=by simp [fillV]
theorem umake_run (n:Nat) (hn:n≤1000) (w:World):(Instr.makeSlice 43 (.int .i64 (n:Int)) (.int .i64 (n:Int))).run Tryz.prog w=.ok (.slice (some ⟨w.heap.size,0,none⟩) n n) (w.alloc (.cells (madeCells #[.int .u64 0] n) 38)) :=
 run_make_row' 43 38 (.int .u64 0) 8 Tryz.underlying43 (by kernel_rfl) rfl .i64 .i64 n (by omega) (by omega) w
set_option maxHeartbeats 4000000 in
theorem repeat_any (x:Int) (n:Nat) (h1:1≤n) (h2:n≤1000) {w:World} {b c:Nat} (hc:w.cell? ⟨b,0,none⟩=some (.int .u64 x)) (hb:b<w.heap.size) :
 Calls Tryz.prog 110 #[.slice (some ⟨b,0,none⟩) 1 c,.int .i64 (n:Int)] w fun e w'=>∃ g,e=.returned (.slice (some ⟨g,0,none⟩) n n)∧w.heap.size≤g∧Blk w' g 38 (fillV x n n).toArray∧Below w.heap.size w w':=by
 have C:=Lib.hid (bmul_one n (by omega))
 have hmk:=umake_run n h2 w
 have q1:¬ (n:Int)<0:=by omega
 have q2:¬ (9223372036854775807:Int)<(n:Int):=by omega
 have w1:IntKind.u64.wrap (n:Int)=(n:Int):=by rw [IntKind.wrap_u64]; omega
 have w2:IntKind.i64.wrap (n:Int)=(n:Int):=IntWalk.i64_in _ (by omega)
 go_enter Tryz.func110,Tryz.ntmps110
 go_wp2_with fail
 refine (C.out _).mono ?_
 rintro e' w3 ⟨rfl,rfl⟩
 go_upto_region 7 with fail
 have BN:=Tb.below1 w (.cells (madeCells #[Value.int .u64 0] n) 38)
 have K0:Blk (w.alloc (.cells (madeCells #[Value.int .u64 0] n) 38)) w.heap.size 38 (madeCells #[Value.int .u64 0] n):=Blk.new w _ _
 have hc1:=(BN.cell (p:=⟨b,0,none⟩) hb).trans hc
 generalize w.alloc (.cells (madeCells #[Value.int .u64 0] n) 38)=w1 at *
 obtain ⟨g,hg⟩:∃ z,w.heap.size=z:=⟨_,rfl⟩
 rw [hg] at K0 ⊢
 have e0:madeCells #[Value.int .u64 0] n=(List.replicate n (Value.int .u64 0)).toArray:=by
  apply Array.ext'
  rw [toList_madeCells_one]
 rw [e0] at K0
 have HB0:=Lib.hid hb
 have hcp:=run_copy_row (P:=Tryz.prog) w1 43 43 3 38 g 0 n n ⟨b,0,none⟩ 1 c (List.replicate n (Value.int .u64 0)).toArray 38 [.int .u64 x] Tryz.underlying43 (by kernel_rfl) K0 (show 1=Nat.min 1 n from (Nat.min_eq_left h1).symm) (fun j v hv=>by
  obtain rfl:j=0:=by have:=(List.getElem?_eq_some_iff.1 hv).1; simp at this; omega
  have hv:v=.int .u64 x:=by simpa using hv.symm
  subst hv
  exact hc1) (by simp; omega) (by simp [Value.oneCell'])
 have e1:(List.take 0 (List.replicate n (Value.int .u64 0)).toArray.toList++[Value.int .u64 x]++List.drop (0 + [Value.int .u64 x].length) (List.replicate n (Value.int .u64 0)).toArray.toList).toArray=(fillV x 1 n).toArray:=congrArg List.toArray ((List.append_assoc ..).trans (fill_one h1))
 rw [e1] at hcp
 have I0:Hid (Blk (w1.setRow g (fillV x 1 n).toArray) g 38 (fillV x 1 n).toArray∧Below w.heap.size w (w1.setRow g (fillV x 1 n).toArray)):=Lib.hid ⟨K0.row _,Tb.below_row BN (by omega) _⟩
 have HG:=Lib.hid hg
 clear hmk e0 e1 K0 hc1 hc hb hg C BN HB0
 go_upto_region 8 with fail
 clear hcp
 generalize w1.setRow g (fillV x 1 n).toArray=w2 at *
 go_wp2_with fail
 go_loopg [8] (n-1) (fun gk s8 wr=>∃ k:Nat,1≤k∧k≤n∧gk=n-k∧s8=.int .i64 k∧Hid (Blk wr g 38 (fillV x k n).toArray∧Below w.heap.size w wr))
 case atStart=>exact ⟨1,by omega,h1,rfl,rfl,I0⟩
 case round =>
  obtain ⟨k,hk1,hkn,hgk,rfl,HI⟩:=hrel
  have HGK:=Lib.hid hgk
  clear hgk I0
  by_cases hlt:(k:Int)<(n:Int)
  ·have hkl:k<n:=by omega
   have hcp:=fun (W:World) (K:Blk W g 38 (fillV x k n).toArray)=>run_copy_row (P:=Tryz.prog) W 43 43 3 38 g k (n-k) (n-k) ⟨g,0,none⟩ k n (fillV x k n).toArray 38 (List.replicate (min k (n-k)) (Value.int .u64 x)) Tryz.underlying43 (by kernel_rfl) K (by rw [List.length_replicate]) (fun j v hv=>by
    have hj:j<min k (n-k):=by have:=(List.getElem?_eq_some_iff.1 hv).1; simpa using this
    rw [List.getElem?_replicate,if_pos hj] at hv
    injection hv with hv
    subst hv
    rw [show (⟨g,0,none⟩:Addr).add j=⟨g,j,none⟩ by unfold Addr.add; by_cases h:j=0 <;> simp [h],K.cell]
    simp [fillV,List.getElem?_append,show j<k by omega]) (by have:=fill_len (x:=x) hkn; simp only [List.length_replicate,List.size_toArray,this]; omega) (by intro v hv; rw [(List.mem_replicate.1 hv).2]; rfl)
   have HD:Hid (Blk (wr.drew.setRow g (fillV x (k+min k (n-k)) n).toArray) g 38 (fillV x (k+min k (n-k)) n).toArray∧Below w.heap.size w (wr.drew.setRow g (fillV x (k+min k (n-k)) n).toArray)):=Lib.hid (And.intro (Tb.Blk.row (w:=wr.drew) HI.out.1 _) (Tb.below_row HI.out.2.drew (by have:=HG.out; omega:w.heap.size≤g) (fillV x (k+min k (n-k)) n).toArray))
   have hcp1:=hcp wr.drew HI.out.1
   have e2:(List.take k (fillV x k n).toArray.toList++List.replicate (min k (n-k)) (Value.int .u64 x)++List.drop (k+(List.replicate (min k (n-k)) (Value.int .u64 x)).length) (fillV x k n).toArray.toList).toArray=(fillV x (k+min k (n-k)) n).toArray:=congrArg List.toArray ((List.append_assoc ..).trans (fill_more hkn))
   rw [e2,List.length_replicate] at hcp1
   have b1:(k:Int)≤(n:Int):=by omega
   have b2:((n:Int)-(k:Int)).toNat=n-k:=by omega
   have b3:(n-k:Nat)=n-k:=rfl
   clear e2 hcp
   have wk:IntKind.i64.wrap ((k:Int)+((min k (n-k):Nat):Int))=((k+min k (n-k):Nat):Int):=by rw [IntWalk.i64_in _ (by omega)]; omega
   go_upto_region 9 with fail
   go_region
   all_goals
    go_wp2_with fail
    go_roundg (n-(k+min k (n-k)))
    case measure=>have:=HGK.out; omega
    case rel=>exact ⟨k+min k (n-k),by omega,by omega,rfl,rfl,HD⟩
  ·obtain rfl:k=n:=by omega
   have HR:Hid (Blk wr g 38 (fillV x k k).toArray∧Below w.heap.size w wr):=HI
   go_wp2_with fail
   go_ret
   exact ⟨g,rfl,by have:=HG.out; omega,HR.out.1,HR.out.2⟩
end Go.Proofs.YtcnohlgigmmefaaGreat.Ro
namespace Go.Proofs.YtcnohlgigmmefaaGreat.NewW
open Go.RowKit Free NewC
open Tb (iv Blk)
set_option linter.unusedVariables false
inductive Cd where
 | any
 | is (v:Value)
 | row (e:TypeId) (κ:IntKind) (base:Nat) (l:List Int)
 | two (e:TypeId) (κ:IntKind) (base:Nat) (l l' : List Int) (f:Value→Value→Array Value)
def Cd.p:Cd→World→Value→Prop
 | .any=>fun _ _=>True
 | .is v=>fun _ u=>u=v
 | .row e κ base l=>fun W u=>∃ A p,u=.slice A l.length p∧W.ownsRow base e 1 (.slice A l.length p) l.length (iv κ l)
 | .two e κ base l l' f=>fun W u=>∃ A p B q,u=.agg (f (.slice A l.length p) (.slice B l'.length q))∧W.ownsRow base e 1 (.slice A l.length p) l.length (iv κ l)∧W.ownsRow base e 1 (.slice B l'.length q) l'.length (iv κ l')
theorem Cd.later (c:Cd) {W W' : World} {u:Value} (hb:Below W.heap.size W W') (h:c.p W u):c.p W' u:=by
 cases c with
 | any=>exact trivial
 | is v=>exact h
 | row=>obtain ⟨A,p,e1,ho⟩:=h; exact ⟨A,p,e1,Tb.own_later ho hb⟩
 | two=>obtain ⟨A,p,B,q,e1,ho,ho'⟩:=h; exact ⟨A,p,B,q,e1,Tb.own_later ho hb,Tb.own_later ho' hb⟩
def Cd.off (T:TypeId):Cd→Bool
 | .row e _ _ _=>e != T
 | .two e _ _ _ _ _=>e != T
 | _=>true
theorem Cd.far (c:Cd) {T:TypeId} (hc:c.off T=true) {W:World} {u:Value} {b:Nat} {cs:Array Value} (hB:Blk W b T cs) (vs:Array Value) (h:c.p W u):c.p (W.setRow b vs) u:=by
 cases c with
 | any=>exact trivial
 | is v=>exact h
 | row=>obtain ⟨A,p,e1,ho⟩:=h; exact ⟨A,p,e1,Tb.own_far ho hB (by simpa [Cd.off] using hc) vs⟩
 | two=>obtain ⟨A,p,B,q,e1,ho,ho'⟩:=h; exact ⟨A,p,B,q,e1,Tb.own_far ho hB (by simpa [Cd.off] using hc) vs,Tb.own_far ho' hB (by simpa [Cd.off] using hc) vs⟩
theorem Cd.all {cs:List Cd} {W W' : World} {j:Nat} {u:Value} (hc:∀ c∈cs,Cd.p c W u→Cd.p c W' u) (h:Free.V (cs.map Cd.p) j W u):Free.V (cs.map Cd.p) j W' u:=by
 unfold Free.V at *
 cases hi:cs[j]? with
 | none=>simp only [List.getD_eq_getElem?_getD,List.getElem?_map,hi]; exact trivial
 | some c =>
   simp only [List.getD_eq_getElem?_getD,List.getElem?_map,hi,Option.map_some,Option.getD_some] at h ⊢
   exact hc c (List.mem_of_getElem? hi) h
theorem Cd.keep {cs:List Cd} {W W' : World} {j:Nat} {u:Value} (hb:Below W.heap.size W W') (h:Free.V (cs.map Cd.p) j W u):Free.V (cs.map Cd.p) j W' u:=Cd.all (fun c _=>c.later hb) h
theorem Cd.fars {cs:List Cd} {T:TypeId} (hc:cs.all (Cd.off T)=true) {W:World} {j:Nat} {u:Value} {b:Nat} {vs:Array Value} (hB:Blk W b T vs) (us:Array Value) (h:Free.V (cs.map Cd.p) j W u):Free.V (cs.map Cd.p) j (W.setRow b us) u:=Cd.all (fun c hm=>c.far (List.all_eq_true.1 hc c hm) hB us) h
theorem slot_row {xs:Array Value} {n base:Nat} {W:World} {e:TypeId} {κ:IntKind} {l:List Int} (h:∃ A p,xs.getD n undef=.slice A l.length p∧W.ownsRow base e 1 (.slice A l.length p) l.length (iv κ l)) :
 ∃ A p,xs[n]?.getD undef=.slice A l.length p∧W.ownsRow base e 1 (.slice A l.length p) l.length (iv κ l):=by simpa using h
structure C (w:World) (T:TypeId) (N ia ib ix sa sb:Nat) (listed:Array Bool) (a:Act) (W:World):Prop where
 b:Below w.heap.size w W
 da:listed.getD ia false=true→∃ b vs,a.tmps.getD sa undef=.pointer (some ⟨b,0,none⟩)∧w.heap.size≤b∧vs.size=N∧Blk W b T vs∧(listed.getD ix false=true→a.tmps.getD sb undef=.agg vs)
 ex:listed.getD ix false=true→listed.getD ia false=true∧listed.getD ib false=true
section
variable {w W W' : World} {T:TypeId} {N ia ib ix sa sb:Nat} {listed:Array Bool} {a:Act}
theorem C.start (k:Nat):C w T N ia ib ix sa sb (Array.replicate k false) a { w with drawn:=w.drawn+1 }:=by
 have h:∀ i,¬ (Array.replicate k false).getD i false=true:=fun i e=>by
  simp only [Array.getD_eq_getD_getElem?,Array.getElem?_replicate] at e
  split at e <;> simp at e
 exact ⟨(Below.refl _ _).drew,fun e=>absurd e (h _),fun e=>absurd e (h _)⟩
theorem C.step (h:C w T N ia ib ix sa sb listed a W) (i d:Nat) (x:Value) (hi:i≠ia∧i≠ix) (hd:d≠sa) (hs:d=sb→i=ib) (hsz:i<listed.size) (hno:listed.getD i true=false) (hb:Below W.heap.size W W'):C w T N ia ib ix sa sb (listed.setIfInBounds i true) (a.put (some d) x) W':=by
 have hl:=NewC.not_listed hsz hno
 refine ⟨geTrans h.b hb,?_,?_⟩
 ·rw [getD_set_ne false hi.1,getD_set_ne false hi.2,put_ne x hd]
  intro e
  obtain ⟨b,vs,e1,e2,e3,e4,e5⟩:=h.da e
  refine ⟨b,vs,e1,e2,e3,e4.later hb,fun ex=>?_⟩
  have:=(h.ex ex).2
  by_cases hds:d=sb
  ·rw [hs hds] at hl
   rw [hl] at this
   cases this
  ·rw [put_ne x hds]
   exact e5 ex
 ·rw [getD_set_ne false hi.1,getD_set_ne false hi.2]
  refine fun e=>⟨(h.ex e).1,?_⟩
  by_cases hib:i=ib
  ·subst hib
   exact set_self hsz
  ·rw [getD_set_ne false hib]
   exact (h.ex e).2
theorem C.alloc (h:C w T N ia ib ix sa sb listed a W) (hne:ia≠ib∧ia≠ix) (hss:sa≠sb) (hsz:ia<listed.size) (hno:listed.getD ia true=false) (ha:sa<a.tmps.size) (vs:Array Value) (hv:vs.size=N) :
 C w T N ia ib ix sa sb (listed.setIfInBounds ia true) (a.put (some sa) (.pointer (some ⟨W.heap.size,0,none⟩))) (W.alloc (.cells vs T)):=by
 have hn:=NewC.not_listed hsz hno
 refine ⟨geTrans h.b (below1 W _),fun _=>⟨W.heap.size,vs,put_eq _ ha,h.b.size,hv,Blk.new W T vs,?_⟩,?_⟩
 ·rw [getD_set_ne false hne.2]
  exact fun e=>by rw [(h.ex e).1] at hn; cases hn
 ·rw [getD_set_ne false hne.2,getD_set_ne false hne.1]
  exact fun e=>⟨set_self hsz,(h.ex e).2⟩
theorem C.store (h:C w T N ia ib ix sa sb listed a W) (hne:ia≠ix∧ib≠ix) (hla:listed.getD ia false=true) (hlb:listed.getD ib false=true) {b:Nat} {vs us:Array Value} (e1:a.tmps.getD sa undef=.pointer (some ⟨b,0,none⟩)) (hb:w.heap.size≤b) (hB:Blk W b T vs) (hu:a.tmps.getD sb undef=.agg us) (hz:us.size=N) :
 C w T N ia ib ix sa sb (listed.setIfInBounds ix true) (a.put none undef) (W.setRow b us):=by
 refine ⟨row_below h.b hb,fun _=>⟨b,us,e1,hb,hz,hB.row us,fun _=>hu⟩,?_⟩
 rw [getD_set_ne false hne.1.symm,getD_set_ne false hne.2.symm]
 exact fun _=>⟨hla,hlb⟩
end
end Go.Proofs.YtcnohlgigmmefaaGreat.NewW
