/- A part. -/
import Derived.WalkKit
import Derived.Orders
import Derived.Test.YtdpmjlbkojhooaaGreatQFree
namespace Go.Proofs.YtdpmjlbkojhooaaGreat.FreeC
open Go.RowKit Free
section
variable (P:Program) (ops:Array Oper) (VL:List (World→Value→Prop)) (C:Array Bool→Act→World→Prop) (a0:Act)
structure At (listed:Array Bool) (a:Act) (w:World):Prop where
 size:listed.size=ops.size
 slots:a.tmps.size=a0.tmps.size
 defers:a.defers=a0.defers
 c:C listed a w
 val:∀ i o,ops[i]? = some o→listed.getD i false=true→V VL i w (got a o)
 kept:∀ d,(∀ i o,ops[i]? = some o→listed.getD i false=true→o.dst≠some d)→a.tmps.getD d undef=a0.tmps.getD d undef
def Step (Q:Exit→Act→World→Prop) (i:Nat) (o:Oper):Prop :=
 ∀ (listed:Array Bool) (a:Act) (w:World),At ops VL C a0 listed a w→listed.getD i true=false→(∀ e∈o.after,Region.binds .any e=true→listed.getD e.on false=true) →
   ∀ K:Act→World→Prop,(∀ v w',C (listed.setIfInBounds i true) (a.put o.dst v) w'→V VL i w' (match o.dst with|some _=>v|none=>undef)→(∀ j u,j≠i→listed.getD j false=true→V VL j w u→V VL j w' u)→K (a.put o.dst v) w')→o.wp P a w K Q
def Steps (Q:Exit→Act→World→Prop):Nat→List Oper→Prop
 | _,[]=>True
 | k,o :: l=>Step P ops VL C a0 Q k o∧Steps Q (k+1) l
end
section
variable {P:Program} {ops:Array Oper} {VL:List (World→Value→Prop)} {C:Array Bool→Act→World→Prop} {a0:Act}
theorem steps_at {Q:Exit→Act→World→Prop}:∀ (l:List Oper) (k:Nat),Steps P ops VL C a0 Q k l→∀ j o,l[j]? = some o→Step P ops VL C a0 Q (k+j) o
 | [],_,_,j,o,h=>by simp at h
 | x :: l,k,hs,0,o,h=>by simp at h; subst h; exact hs.1
 | x :: l,k,hs,j+1,o,h=>by
   have:=steps_at l (k+1) hs.2 j o (by simpa using h)
   rw [show k+(j+1)=k+1+j by omega]; exact this
theorem walk {n:Nat} {Q:Exit→Act→World→Prop} (hB:okB ops n=true) (hn:a0.tmps.size=n)
 (hS:∀ i o,ops[i]? = some o→Step P ops VL C a0 Q i o)
 (fin:∀ a w,At ops VL C a0 (Array.replicate ops.size true) a w→Q .normal a w) :
 ∀ (fuel:Nat) (listed:Array Bool) (a:Act) (w:World),At ops VL C a0 listed a w→listed.count false≤fuel→wpAny P .any ops Q fuel listed a w:=by
 intro fuel
 have done:∀ (listed:Array Bool) (a:Act) (w:World),At ops VL C a0 listed a w→Region.ready .any ops listed=[]→Q .normal a w:=by
  intro listed a w h hr
  have e:=listed_all h.size (all_of_ready hB h.size hr)
  rw [e] at h
  exact fin a w h
 induction fuel with
 | zero =>
   intro listed a w h hc
   have hr:Region.ready .any ops listed=[]:=by
    rw [List.eq_nil_iff_forall_not_mem]
    intro i hi
    obtain ⟨h1,o,ho,_⟩:=mem_ready.1 hi
    have hlt:i<listed.size:=by rw [h.size]; exact (Array.getElem?_eq_some_iff.1 ho).1
    have h2:listed[i]=false:=by simpa [hlt] using h1
    have:0<listed.count false:=by
     rw [Array.count_pos_iff]
     exact h2 ▸ Array.getElem_mem hlt
    omega
   exact ⟨hr,done _ _ _ h hr⟩
 | succ fuel ih =>
   intro listed a w h hc
   refine ⟨fun hr=>done _ _ _ h hr,fun i hi=>?_⟩
   obtain ⟨h1,o,ho,hall⟩:=mem_ready.1 hi
   have hio:i<ops.size:=(Array.getElem?_eq_some_iff.1 ho).1
   have hlt:i<listed.size:=by rw [h.size]; exact hio
   have h2:listed[i]=false:=by simpa [hlt] using h1
   obtain ⟨hg,_,hd⟩:=okB_at hB ho
   have hwant:Region.wanted o (yielded ops a.tmps)=true:=by simp [Region.wanted,hg]
   unfold wpOp
   simp only [ho,hwant,if_true]
   refine .inl (hS i o ho listed a w h h1 hall _ ?_)
   intro v w' hCw hv hper
   have hcount:(listed.setIfInBounds i true).count false≤fuel:=by
    rw [Array.setIfInBounds,dif_pos hlt,Array.count_set hlt]
    have:0<listed.count false:=by
     rw [Array.count_pos_iff]
     exact h2 ▸ Array.getElem_mem hlt
    simp [h2]
    omega
   have hgetD:∀ j,j≠i→(listed.setIfInBounds i true).getD j false=listed.getD j false:=fun j hj=>getD_set_ne false (Ne.symm hj)
   refine ih _ _ _ ⟨by simp [h.size],?_,?_,hCw,?_,?_⟩ hcount
   ·rw [← h.slots]
    unfold Act.put
    split <;> simp
   ·rw [← h.defers]
    unfold Act.put
    split <;> rfl
   ·intro j oj hj hl
    by_cases hji:j=i
    ·subst hji
     rw [ho] at hj
     injection hj with hj
     subst hj
     cases hdst:o.dst with
     | none =>
       rw [hdst] at hv
       unfold got
       simp only [hdst]
       exact hv
     | some d =>
       rw [hdst] at hv
       have hdn:=(hd d hdst).1
       have hsz:d<a.tmps.size:=by rw [h.slots,hn]; exact hdn
       unfold got Act.put
       simp only [hdst]
       simpa [hsz] using hv
    ·rw [hgetD j hji] at hl
     have hold:=hper j _ hji hl (h.val j oj hj hl)
     have e:got (a.put o.dst v) oj=got a oj:=by
      unfold got
      cases hoj:oj.dst with
      | none=>rfl
      | some d =>
        simp only
        cases hdst:o.dst with
        | none=>rfl
        | some d' =>
          have hne:d'≠d:=by
           intro e
           subst e
           exact unlike hB hj ho hji hoj hdst
          unfold Act.put
          simp only
          exact slot_ne v hne
     rw [e]; exact hold
   ·intro d hdn
    have hno:∀ j oj,ops[j]? = some oj→listed.getD j false=true→oj.dst≠some d:=by
     intro j oj hj hl
     by_cases hji:j=i
     ·subst hji
      rw [ho] at hj
      injection hj with hj
      subst hj
      exact hdn j o ho (by simp [hlt])
     ·exact hdn j oj hj (by rw [hgetD j hji]; exact hl)
    have hio' : o.dst≠some d:=hdn i o ho (by simp [hlt])
    rw [← h.kept d hno]
    unfold Act.put
    cases hdst:o.dst with
    | none=>rfl
    | some d' =>
      simp only
      exact slot_ne v (fun e=>hio' (by rw [hdst,e]))
theorem wp_freeC {id:Nat} {Q:Exit→Act→World→Prop} {w:World} {l:List Oper} (VL:List (World→Value→Prop)) (C:Array Bool→Act→World→Prop)
 (hm:P.follows .mixedOrders=true) (hB:okB l.toArray a0.tmps.size=true) (hC:C (Array.replicate l.length false) a0 { w with drawn:=w.drawn+1 })
 (hS:Steps P l.toArray VL C a0 Q 0 l)
 (fin:∀ a w,At l.toArray VL C a0 (Array.replicate l.length true) a w→Q .normal a w):(Code.region id l.toArray true).wp P Q a0 w:=by
 refine wp_region_any hm ?_
 refine walk hB rfl (fun i o hi=>?_) (by simpa using fin) _ _ _ _ ⟨by simp,rfl,rfl,by simpa using hC,?_,fun _ _=>rfl⟩ ?_
 ·have:=steps_at l 0 hS i o (by simpa using hi)
  rwa [Nat.zero_add] at this
 ·intro i o hi hl
  exfalso
  simp only [Array.getD_eq_getD_getElem?,Array.getElem?_replicate] at hl
  split at hl <;> simp at hl
 ·simp
end
end Go.Proofs.YtdpmjlbkojhooaaGreat.FreeC
namespace Go.Proofs.YtdpmjlbkojhooaaGreat.FreeD
open Go.RowKit Free
def Dep (ops:Array Oper) (listed:Array Bool):Prop:=∀ i o,ops[i]? = some o→listed.getD i false=true→∀ e∈o.after,Region.binds .any e=true→listed.getD e.on false=true
def waits (ops:Array Oper) (i:Nat):Nat→Nat→Bool
 | 0,x=>x == i
 | f+1,x=>x == i || match ops[x]? with
   | none=>false
   | some o=>o.after.toList.any fun e=>Region.binds .any e && waits ops i f e.on
theorem Dep.back {ops:Array Oper} {listed:Array Bool} (h:Dep ops listed) {i:Nat}:∀ (f x:Nat),waits ops i f x=true→listed.getD x false=true→listed.getD i false=true
 | 0,x,hw,hl=>by
   unfold waits at hw
   rw [beq_iff_eq] at hw
   rw [← hw]; exact hl
 | f+1,x,hw,hl=>by
   unfold waits at hw
   rw [Bool.or_eq_true] at hw
   rcases hw with hw|hw
   ·rw [beq_iff_eq] at hw
    rw [← hw]; exact hl
   ·cases ho:ops[x]? with
    | none=>rw [ho] at hw; cases hw
    | some o =>
      rw [ho] at hw
      simp only [List.any_eq_true,Bool.and_eq_true] at hw
      obtain ⟨e,he,hb,hr⟩:=hw
      exact h.back f e.on hr (h x o ho hl e (by simpa using he) hb)
theorem Dep.not_yet {ops:Array Oper} {listed:Array Bool} (h:Dep ops listed) {i x f:Nat} (hw:waits ops i f x=true) (hn:listed.getD i false=false):listed.getD x false=false:=by
 cases hl:listed.getD x false with
 | false=>rfl
 | true=>rw [h.back f x hw hl] at hn; cases hn
section
variable (P:Program) (ops:Array Oper) (VL:List (World→Value→Prop)) (C:Array Bool→Act→World→Prop) (a0:Act)
def Step (Q:Exit→Act→World→Prop) (i:Nat) (o:Oper):Prop :=
 ∀ (listed:Array Bool) (a:Act) (w:World),FreeC.At ops VL C a0 listed a w→Dep ops listed→listed.getD i true=false→(∀ e∈o.after,Region.binds .any e=true→listed.getD e.on false=true) →
   ∀ K:Act→World→Prop,(∀ v w',C (listed.setIfInBounds i true) (a.put o.dst v) w'→V VL i w' (match o.dst with|some _=>v|none=>undef)→(∀ j u,j≠i→listed.getD j false=true→V VL j w u→V VL j w' u)→K (a.put o.dst v) w')→o.wp P a w K Q
def Steps (Q:Exit→Act→World→Prop):Nat→List Oper→Prop
 | _,[]=>True
 | k,o :: l=>Step P ops VL C a0 Q k o∧Steps Q (k+1) l
end
section
variable {P:Program} {ops:Array Oper} {VL:List (World→Value→Prop)} {C:Array Bool→Act→World→Prop} {a0:Act}
theorem at_of {listed:Array Bool} {a:Act} {w:World} (h:FreeC.At ops VL (fun l a w=>C l a w∧Dep ops l) a0 listed a w):FreeC.At ops VL C a0 listed a w:=⟨h.size,h.slots,h.defers,h.c.1,h.val,h.kept⟩
theorem step_of {Q:Exit→Act→World→Prop} {i:Nat} {o:Oper} (ho:ops[i]? = some o) (h:Step P ops VL C a0 Q i o):FreeC.Step P ops VL (fun l a w=>C l a w∧Dep ops l) a0 Q i o:=by
 intro listed a w hA hno hr K hK
 refine h listed a w (at_of hA) hA.c.2 hno hr K fun v w' hC hV hP=>hK v w' ⟨hC,?_⟩ hV hP
 intro j oj hj hl e he hb
 by_cases hji:j=i
 ·subst hji
  rw [ho] at hj
  injection hj with hj
  subst hj
  have:=hr e he hb
  by_cases hei:j=e.on
  ·rw [← hei] at this
   have hlt:j<listed.size:=by rw [hA.size]; exact (Array.getElem?_eq_some_iff.1 ho).1
   rw [← hei]; simp [hlt]
  ·rw [getD_set_ne false hei]; exact this
 ·rw [getD_set_ne false (Ne.symm hji)] at hl
  have:=hA.c.2 j oj hj hl e he hb
  by_cases hei:i=e.on
  ·subst hei
   have hlt:e.on<listed.size:=by rw [hA.size]; exact (Array.getElem?_eq_some_iff.1 ho).1
   simp [hlt]
  ·rw [getD_set_ne false hei]; exact this
theorem steps_of {Q:Exit→Act→World→Prop}:∀ (l:List Oper) (k:Nat),(∀ j o,l[j]? = some o→ops[k+j]? = some o)→Steps P ops VL C a0 Q k l→FreeC.Steps P ops VL (fun l a w=>C l a w∧Dep ops l) a0 Q k l
 | [],_,_,_=>trivial
 | o :: l,k,hk,hs=>⟨step_of (by have:=hk 0 o (by simp); simpa using this) hs.1,steps_of l (k+1) (fun j o hj=>by have:=hk (j+1) o (by simpa using hj); rw [show k+1+j=k+(j+1) by omega]; exact this) hs.2⟩
theorem wp_freeD {id:Nat} {Q:Exit→Act→World→Prop} {w:World} {l:List Oper} (VL:List (World→Value→Prop)) (C:Array Bool→Act→World→Prop)
 (hm:P.follows .mixedOrders=true) (hB:okB l.toArray a0.tmps.size=true) (hC:C (Array.replicate l.length false) a0 { w with drawn:=w.drawn+1 })
 (hS:Steps P l.toArray VL C a0 Q 0 l)
 (fin:∀ a w,FreeC.At l.toArray VL C a0 (Array.replicate l.length true) a w→Q .normal a w):(Code.region id l.toArray true).wp P Q a0 w:=by
 refine FreeC.wp_freeC VL (fun li a w=>C li a w∧Dep l.toArray li) hm hB ⟨hC,fun i o hi hl=>?_⟩ (steps_of l 0 (fun j o hj=>by rw [Nat.zero_add]; simpa using hj) hS) (fun a w h=>fin a w (at_of h))
 exfalso
 simp only [Array.getD_eq_getD_getElem?,Array.getElem?_replicate] at hl
 split at hl <;> simp at hl
end
structure Last (w:World) (x:Nat) (P:World→Prop) (listed:Array Bool) (a:Act) (W:World):Prop where
 bef:listed.getD x false=false→Below w.heap.size w W
 aft:listed.getD x false=true→P W
section
variable {w W W' : World} {x:Nat} {P:World→Prop} {listed:Array Bool} {a a' : Act}
theorem Last.start (w:World) (x:Nat) (P:World→Prop) (k:Nat) (a:Act):Last w x P (Array.replicate k false) a { w with drawn:=w.drawn+1 } :=
 ⟨fun _=>(Below.refl _ _).drew,fun e=>by
  simp only [Array.getD_eq_getD_getElem?,Array.getElem?_replicate] at e
  split at e <;> simp at e⟩
theorem Last.step (h:Last w x P listed a W) {i:Nat} (hi:i≠x) (hx:listed.getD x false=false) (hb:Below W.heap.size W W'):Last w x P (listed.setIfInBounds i true) a' W':=by
 have e:(listed.setIfInBounds i true).getD x false=listed.getD x false:=getD_set_ne false hi
 exact ⟨fun _=>(h.bef hx).trans (hb.mono (h.bef hx).size),fun e2=>by rw [e,hx] at e2; cases e2⟩
theorem Last.still (h:Last w x P listed a W) {i:Nat} (hi:i≠x):Last w x P (listed.setIfInBounds i true) a' W:=by
 have e:(listed.setIfInBounds i true).getD x false=listed.getD x false:=getD_set_ne false hi
 exact ⟨by rw [e]; exact h.bef,by rw [e]; exact h.aft⟩
theorem Last.last (hsz:x<listed.size) (hp:P W'):Last w x P (listed.setIfInBounds x true) a' W' :=
 ⟨fun e=>by simp [hsz] at e,fun _=>hp⟩
end
def wl (vs:List (Option Value)):List (World→Value→Prop):=vs.map fun o _ u=>match o with|none=>True|some v=>u=v
theorem wl_any {vs:List (Option Value)} {j:Nat} {W W' : World} {u:Value} (h:Free.V (wl vs) j W u):Free.V (wl vs) j W' u:=by
 unfold Free.V wl at *
 simp only [List.getD_eq_getElem?_getD,List.getElem?_map] at h ⊢
 cases hi:vs[j]? with
 | none=>rw [hi] at h; exact h
 | some c=>rw [hi] at h; exact h
theorem slot_is {xs:Array Value} {n:Nat} {v:Value} (h:xs.getD n undef=v):xs[n]?.getD undef=v:=by simpa using h
theorem not_listed {listed:Array Bool} {i:Nat} (hi:i<listed.size) (h:listed.getD i true=false):listed.getD i false=false:=by
 simp only [Array.getD_eq_getD_getElem?] at h ⊢
 have:listed[i]? = some (listed[i]'hi):=Array.getElem?_eq_getElem hi
 rw [this] at h ⊢
 exact h
end Go.Proofs.YtdpmjlbkojhooaaGreat.FreeD
