/- A part. -/
import Derived.Test.YtdpmjlbkojhooaaGreatQLwU
namespace Go.Proofs.YtdpmjlbkojhooaaGreat.Tb
open Go.RowKit Go.Lib
set_option linter.unusedVariables false
set_option maxRecDepth 100000
open Go.RowKit Go.Lib
set_option linter.unusedVariables false
theorem from_empty {κ:IntKind} {e T:TypeId} {z:Value} (hT:Tryz.prog.underlying T=some (.slice e)) (hI:(Tryz.prog.info? e).map (fun i=>(i.zero,i.size,i.bytes))=some (some z,1,8)) (hz:z.cells.size=1)
 {W:World} {A:Option Addr} {m p:Nat} {l:List Int} (h:Sl κ W A m l) (h0:0<m) (hm:m≤1000) (g0:Nat) {base:Nat} (hb:base≤W.heap.size) :
 ∃ p' W5,(∀ ty,(Builtin.append_ #[T,T] ty #[.slice (some ⟨g0,0,none⟩) 0 0,.slice A m p]).run Tryz.prog W=.ok (.slice (some ⟨W.heap.size,0,none⟩) m p') W5) ∧
   W5.ownsRow base e 1 (.slice (some ⟨W.heap.size,0,none⟩) m p') m (iv κ l)∧Below W.heap.size W W5∧W.heap.size<W5.heap.size:=by
 obtain ⟨i0,hi0,hz0,hz1,hz2⟩:=info_of hI
 obtain ⟨b,off,rfl,_,_⟩:=h.cells h0
 have hlen:m=l.length:=h.len
 have hr:=fun ty=>run_append_grow (P:=Tryz.prog) W T ty e i0 z hT hi0 hz0 ⟨g0,0,none⟩ 0 0 [] (by simp) (by simp) ⟨b,off,none⟩ m p (iv κ l) (by rw [iv_len,hlen,hz1,Nat.mul_one]) (sl_cells h) (by omega) (by omega) (growslice_fits (by omega) (by rw [hz2]; omega))
 simp only [Nat.zero_add] at hr
 have hge:=grownCap_ge W m 0 e
 have hcm:grownCap W m 0 e≤maxLen:=grownCap_le_maxLen W m 0 e (by unfold maxLen; omega)
 refine ⟨grownCap W m 0 e,_,hr,⟨by rw [iv_len,hlen,Nat.mul_one],.inr ⟨W.heap.size,_,_,rfl,hb,heap_alloc_new W.drew _,hge,hcm,?_,?_⟩⟩,((Below.refl W.heap.size W).drew).alloc (Nat.le_refl _) _,by simp⟩
 ·simp only [Array.size_append,List.size_toArray,size_zeroCells,hz,iv_len,List.length_nil]
  omega
 ·simp only [Array.toList_append,List.append_assoc]
  simp [iv_len,hlen]
inductive CndO where
 | is (v:Value)
 | emp
 | own (κ:IntKind) (e:TypeId) (base m:Nat) (l:List Int)
 | row3 (base:Nat) (sg st:Int) (m k n:Nat) (o l f:List Int)
 | put (base bz:Nat) (T:TypeId) (sg st:Int) (m k n:Nat) (o l f:List Int)
def CndO.p:CndO→World→Value→Prop
 | .is v=>fun _ u=>u=v
 | .emp=>fun _ u=>∃ g,u=.slice (some ⟨g,0,none⟩) 0 0
 | .own κ e base m l=>fun W u=>∃ g p,u=.slice (some ⟨g,0,none⟩) m p∧W.ownsRow base e 1 (.slice (some ⟨g,0,none⟩) m p) m (iv κ l)
 | .row3 base sg st m k n o l f=>fun W u=>∃ A p B q C r,u=.agg #[.int .i64 sg,.int .i64 st,.slice A m p,.slice B k q,.slice C n r]∧Rows3 base A m p B k q C n r o l f W
 | .put base bz T sg st m k n o l f=>fun W _=>∃ A p B q C r,Blk W bz T (csT sg st A m p B k q C n r)∧Rows3 base A m p B k q C n r o l f W
theorem CndO.later (c:CndO) {W W' : World} {u:Value} (hb:Below W.heap.size W W') (h:c.p W u):c.p W' u:=by
 cases c with
 | is v=>exact h
 | emp=>exact h
 | own κ e base m l=>obtain ⟨g,p,e1,ho⟩:=h; exact ⟨g,p,e1,own_later ho hb⟩
 | row3=>obtain ⟨A,p,B,q,C,r,e1,ho⟩:=h; exact ⟨A,p,B,q,C,r,e1,ho.later hb⟩
 | put=>obtain ⟨A,p,B,q,C,r,e1,ho⟩:=h; exact ⟨A,p,B,q,C,r,e1.later hb,ho.later hb⟩
theorem CndO.keep {cs:List CndO} {W W' : World} {j:Nat} {u:Value} (hb:Below W.heap.size W W') (h:Free.V (cs.map CndO.p) j W u):Free.V (cs.map CndO.p) j W' u:=by
 unfold Free.V at *
 cases hi:cs[j]? with
 | none=>simp only [List.getD_eq_getElem?_getD,List.getElem?_map,hi]; exact trivial
 | some c =>
   simp only [List.getD_eq_getElem?_getD,List.getElem?_map,hi,Option.map_some,Option.getD_some] at h ⊢
   exact c.later hb h
theorem slot_emp {xs:Array Value} {n:Nat} (h:∃ g,xs.getD n undef=.slice (some ⟨g,0,none⟩) 0 0):∃ g,xs[n]?.getD undef=.slice (some ⟨g,0,none⟩) 0 0:=by simpa using h
theorem slot_own {xs:Array Value} {i base m:Nat} {κ:IntKind} {e:TypeId} {l:List Int} {W:World} (h:∃ g p,xs.getD i undef=.slice (some ⟨g,0,none⟩) m p∧W.ownsRow base e 1 (.slice (some ⟨g,0,none⟩) m p) m (iv κ l)) :
 ∃ g p,xs[i]?.getD undef=.slice (some ⟨g,0,none⟩) m p∧W.ownsRow base e 1 (.slice (some ⟨g,0,none⟩) m p) m (iv κ l):=by simpa using h
theorem slot_row3 {xs:Array Value} {i base m k n:Nat} {sg st:Int} {o l f:List Int} {W:World} (h:∃ A p B q C r,xs.getD i undef=.agg #[.int .i64 sg,.int .i64 st,.slice A m p,.slice B k q,.slice C n r]∧Rows3 base A m p B k q C n r o l f W) :
 ∃ A p B q C r,xs[i]?.getD undef=.agg #[.int .i64 sg,.int .i64 st,.slice A m p,.slice B k q,.slice C n r]∧Rows3 base A m p B k q C n r o l f W:=by simpa using h
theorem getD_no {listed:Array Bool} (h:listed.size=18) (hno:listed.getD 17 true=false):listed.getD 17 false=false:=by
 simp only [Array.getD_eq_getD_getElem?] at hno ⊢
 have:listed[17]? = some (listed[17]'(by omega)):=Array.getElem?_eq_getElem (by omega)
 rw [this] at hno ⊢
 exact hno
structure OwC (w:World) (b1 bz base:Nat) (T:TypeId) (cs:Array Value) (m k:Nat) (listed:Array Bool) (a:Act) (W:World):Prop where
 b:Below w.heap.size w W
 kb:Blk W b1 T cs
 z:listed.getD 17 false=false→Blk W bz T (csT 0 0 none 0 0 none 0 0 none 0 0)
 s:base≤W.heap.size
 lt:bz<base
 ne:b1≠bz
 lw:w.heap.size≤bz
 d:listed.getD 7 false=true→listed.getD 11 false=true→∀ g h p q,a.tmps.getD 10 undef=.slice (some ⟨g,0,none⟩) m p→a.tmps.getD 14 undef=.slice (some ⟨h,0,none⟩) k q→g≠h
section
variable {w:World} {b1 bz base m k:Nat} {T:TypeId} {cs:Array Value} {listed:Array Bool} {a:Act} {W W' : World}
theorem OwC.step (h:OwC w b1 bz base T cs m k listed a W) (i d:Nat) (v:Value) (h7:i≠7) (h11:i≠11) (h17:i≠17) (hd:d≠10) (hd' : d≠14) (hb:Below W.heap.size W W'):OwC w b1 bz base T cs m k (listed.setIfInBounds i true) (a.put (some d) v) W':=by
 refine ⟨Ge.trans h.b hb,h.kb.later hb,?_,Nat.le_trans h.s hb.size,h.lt,h.ne,h.lw,?_⟩
 ·rw [getD_set_ne false h17]; exact fun e=>(h.z e).later hb
 ·rw [getD_set_ne false h7,getD_set_ne false h11]
  intro l7 l11 g g' p q e1 e2
  exact h.d l7 l11 g g' p q ((Free.slot_ne v hd).symm.trans e1) ((Free.slot_ne v hd').symm.trans e2)
theorem OwC.app7 (h:OwC w b1 bz base T cs m k listed a W) (hsz:14<a.tmps.size) {o:List Int} {e:TypeId} (hl:listed.getD 11 false=true→∃ g p,a.tmps.getD 14 undef=.slice (some ⟨g,0,none⟩) k p∧W.ownsRow base e 1 (.slice (some ⟨g,0,none⟩) k p) k (iv .i64 o)) (p' : Nat) (hb:Below W.heap.size W W') :
 OwC w b1 bz base T cs m k (listed.setIfInBounds 7 true) (a.put (some 10) (.slice (some ⟨W.heap.size,0,none⟩) m p')) W':=by
 refine ⟨Ge.trans h.b hb,h.kb.later hb,?_,Nat.le_trans h.s hb.size,h.lt,h.ne,h.lw,?_⟩
 ·rw [getD_set_ne false (by omega)]; exact fun e=>(h.z e).later hb
 ·rw [getD_set_ne false (show 7≠11 by omega)]
  intro _ l11 g g' p q e1 e2
  obtain ⟨g2,p2,e3,ho⟩:=hl l11
  have e4:(a.put (some 10) (.slice (some ⟨W.heap.size,0,none⟩) m p')).tmps.getD 14 undef=a.tmps.getD 14 undef:=Free.slot_ne _ (by omega)
  have e5:=e3.symm.trans (e4.symm.trans e2)
  injection e5 with e5
  injection e5 with e5
  injection e5 with e5
  have e6:(a.put (some 10) (.slice (some ⟨W.heap.size,0,none⟩) m p')).tmps.getD 10 undef=.slice (some ⟨W.heap.size,0,none⟩) m p':=by
   unfold Act.put
   simp [show 10<a.tmps.size by omega]
  have e7:=e6.symm.trans e1
  injection e7 with e7
  injection e7 with e7
  injection e7 with e7
  have:=(ho.lt g2 rfl).2
  omega
theorem OwC.app11 (h:OwC w b1 bz base T cs m k listed a W) (hsz:14<a.tmps.size) {o:List Int} {e:TypeId} (hl:listed.getD 7 false=true→∃ g p,a.tmps.getD 10 undef=.slice (some ⟨g,0,none⟩) m p∧W.ownsRow base e 1 (.slice (some ⟨g,0,none⟩) m p) m (iv .i64 o)) (p' : Nat) (hb:Below W.heap.size W W') :
 OwC w b1 bz base T cs m k (listed.setIfInBounds 11 true) (a.put (some 14) (.slice (some ⟨W.heap.size,0,none⟩) k p')) W':=by
 refine ⟨Ge.trans h.b hb,h.kb.later hb,?_,Nat.le_trans h.s hb.size,h.lt,h.ne,h.lw,?_⟩
 ·rw [getD_set_ne false (by omega)]; exact fun e=>(h.z e).later hb
 ·rw [getD_set_ne false (show 11≠7 by omega)]
  intro l7 _ g g' p q e1 e2
  obtain ⟨g2,p2,e3,ho⟩:=hl l7
  have e4:(a.put (some 14) (.slice (some ⟨W.heap.size,0,none⟩) k p')).tmps.getD 10 undef=a.tmps.getD 10 undef:=Free.slot_ne _ (by omega)
  have e5:=e3.symm.trans (e4.symm.trans e1)
  injection e5 with e5
  injection e5 with e5
  injection e5 with e5
  have e6:(a.put (some 14) (.slice (some ⟨W.heap.size,0,none⟩) k p')).tmps.getD 14 undef=.slice (some ⟨W.heap.size,0,none⟩) k p':=by
   unfold Act.put
   simp [hsz]
  have e7:=e6.symm.trans e2
  injection e7 with e7
  injection e7 with e7
  injection e7 with e7
  have:=(ho.lt g2 rfl).2
  omega
theorem OwC.store (h:OwC w b1 bz base T cs m k listed a W) (hsz:listed.size=18) (vs:Array Value):OwC w b1 bz base T cs m k (listed.setIfInBounds 17 true) (a.put none undef) (W.setRow bz vs):=by
 refine ⟨below_row h.b h.lw _,h.kb.far h.ne.symm _,?_,by rw [row_size]; exact h.s,h.lt,h.ne,h.lw,?_⟩
 ·intro e; simp [hsz] at e
 ·rw [getD_set_ne false (show 17≠7 by omega),getD_set_ne false (show 17≠11 by omega)]
  exact h.d
end
def vlO (b1 bz base:Nat) (sg st:Int) (A:Option Addr) (m p:Nat) (B:Option Addr) (k q:Nat) (C:Option Addr) (n r:Nat) (o l f:List Int):List CndO:=[.is (.pointer (some ⟨b1,0,none⟩)),.is (.int .i64 sg),.is (.pointer (some ⟨b1,1,none⟩)),.is (.int .i64 st),.emp,.is (.pointer (some ⟨b1,2,none⟩)),.is (.slice A m p),.own .i64 3 base m o,.emp,.is (.pointer (some ⟨b1,3,none⟩)),.is (.slice B k q),.own .i64 3 base k l,.emp,.is (.pointer (some ⟨b1,4,none⟩)),.is (.slice C n r),.own .u64 43 base n f,.row3 base sg st m k n o l f,.put base bz 100 sg st m k n o l f]
theorem CndO.keep_row {b1 bz base:Nat} {sg st:Int} {A:Option Addr} {m p:Nat} {B:Option Addr} {k q:Nat} {C:Option Addr} {n r:Nat} {o l f:List Int} {W:World} {j:Nat} {u:Value} {cs:Array Value} (hb:bz<base) (hj:j≠17) (h:Free.V ((vlO b1 bz base sg st A m p B k q C n r o l f).map CndO.p) j W u):Free.V ((vlO b1 bz base sg st A m p B k q C n r o l f).map CndO.p) j (W.setRow bz cs) u:=by
 rcases (by omega:j≤16∨18≤j) with hj|hj
 ·match j,hj,h with
  | 0,_,h=>exact h
  | 1,_,h=>exact h
  | 2,_,h=>exact h
  | 3,_,h=>exact h
  | 4,_,h=>exact h
  | 5,_,h=>exact h
  | 6,_,h=>exact h
  | 7,_,h=>obtain ⟨g,p,e1,ho⟩:=h; exact ⟨g,p,e1,own_row ho hb⟩
  | 8,_,h=>exact h
  | 9,_,h=>exact h
  | 10,_,h=>exact h
  | 11,_,h=>obtain ⟨g,p,e1,ho⟩:=h; exact ⟨g,p,e1,own_row ho hb⟩
  | 12,_,h=>exact h
  | 13,_,h=>exact h
  | 14,_,h=>exact h
  | 15,_,h=>obtain ⟨g,p,e1,ho⟩:=h; exact ⟨g,p,e1,own_row ho hb⟩
  | 16,_,h=>obtain ⟨A,p,B,q,C,r,e1,ho⟩:=h; exact ⟨A,p,B,q,C,r,e1,ho.row hb⟩
  | j+17,hj,_=>exact absurd hj (by omega)
 ·unfold Free.V
  simp only [List.getD_eq_getElem?_getD]
  rw [List.getElem?_eq_none (by simpa [vlO] using hj)]
  exact trivial
set_option maxRecDepth 100000 in
set_option maxHeartbeats 8000000 in
theorem rown_any (sg st:Int) (A:Option Addr) (m p:Nat) (B:Option Addr) (k q:Nat) (C:Option Addr) (n r:Nat) (o l f:List Int) (w:World) (h:TIn w A m B k C n o l f) (h1:1≤m∧m≤1000) (h2:1≤k∧k≤1000) (h3:1≤n∧n≤1000) :
 Calls Tryz.prog 148 #[.agg #[.int .i64 sg,.int .i64 st,.slice A m p,.slice B k q,.slice C n r]] w (fun en w'=>∃ A1 p1 B1 q1 C1 r1,en=.returned (.agg #[.int .i64 sg,.int .i64 st,.slice A1 m p1,.slice B1 k q1,.slice C1 n r1])∧Rows3 w.heap.size A1 m p1 B1 k q1 C1 n r1 o l f w'∧Below w.heap.size w w'):=by
 have hsa:=h.a
 have hsb:=h.b
 have hsc:=h.c
 have B0:Below w.heap.size w ((w.alloc (.cells #[.int .i64 sg,.int .i64 st,.slice A m p,.slice B k q,.slice C n r] 100)).alloc (.cells #[.int .i64 0,.int .i64 0,.slice none 0 0,.slice none 0 0,.slice none 0 0] 100)):=Ge.trans (below1 _ _) (below1 _ _)
 have K0:Blk ((w.alloc (.cells #[.int .i64 sg,.int .i64 st,.slice A m p,.slice B k q,.slice C n r] 100)).alloc (.cells #[.int .i64 0,.int .i64 0,.slice none 0 0,.slice none 0 0,.slice none 0 0] 100)) w.heap.size 100 (csT sg st A m p B k q C n r):=(Blk.new w _ _).later (below1 _ _)
 have Z0:Blk ((w.alloc (.cells #[.int .i64 sg,.int .i64 st,.slice A m p,.slice B k q,.slice C n r] 100)).alloc (.cells #[.int .i64 0,.int .i64 0,.slice none 0 0,.slice none 0 0,.slice none 0 0] 100)) (w.heap.size+1) 100 (csT 0 0 none 0 0 none 0 0 none 0 0):=Blk.at_ _ _ _ (by simp)
 have hv:=Tryz.zeroValue100
 have S0:w.heap.size+2≤((w.alloc (.cells #[.int .i64 sg,.int .i64 st,.slice A m p,.slice B k q,.slice C n r] 100)).alloc (.cells #[.int .i64 0,.int .i64 0,.slice none 0 0,.slice none 0 0,.slice none 0 0] 100)).heap.size:=by simp
 go_enter Tryz.func148,Tryz.ntmps148
 go_wp2_with fail
 refine FreeC.wp_freeC ((vlO w.heap.size (w.heap.size+1) (w.heap.size+2) sg st A m p B k q C n r o l f).map CndO.p) (OwC w w.heap.size (w.heap.size+1) (w.heap.size+2) 100 (csT sg st A m p B k q C n r) m k) (by kernel_rfl) (by kernel_rfl) ⟨Ge.trans B0 (below_drawn _),K0.later (below_drawn _),fun _=>Z0.later (below_drawn _),S0,by omega,by omega,by omega,fun e=>by simp at e⟩ ?_ ?_
 ·clear K0 Z0 B0 S0
  refine ⟨?_,?_,?_,?_,?_,?_,?_,?_,?_,?_,?_,?_,?_,?_,?_,?_,?_,?_,trivial⟩
  ·intro listed A0 W hA hno hr K hK
   have e1:A0.tmps[1]?.getD undef=.pointer (some ⟨w.heap.size,0,none⟩):=slot_is ((hA.kept 1 (Free.not_dst (by kernel_rfl))).trans rfl)
   simp [go_sem,e1]
   exact hK _ _ (hA.c.step 0 3 _ (by omega) (by omega) (by omega) (by omega) (by omega) (Below.refl _ _)) rfl (fun j u _ _ hu=>CndO.keep (Below.refl _ _) hu)
  ·intro listed A0 W hA hno hr K hK
   have e3:A0.tmps[3]?.getD undef=.pointer (some ⟨w.heap.size,0,none⟩):=slot_is (hA.val 0 _ rfl (hr ⟨0,.data⟩ (by simp) rfl))
   have c0:W.cell? ⟨w.heap.size,0,none⟩=some (.int .i64 sg):=hA.c.kb.cell 0
   simp [go_sem,e3,c0]
   exact hK _ _ (hA.c.step 1 4 _ (by omega) (by omega) (by omega) (by omega) (by omega) (Below.refl _ _)) rfl (fun j u _ _ hu=>CndO.keep (Below.refl _ _) hu)
  ·intro listed A0 W hA hno hr K hK
   have e1:A0.tmps[1]?.getD undef=.pointer (some ⟨w.heap.size,0,none⟩):=slot_is ((hA.kept 1 (Free.not_dst (by kernel_rfl))).trans rfl)
   simp [go_sem,e1]
   exact hK _ _ (hA.c.step 2 5 _ (by omega) (by omega) (by omega) (by omega) (by omega) (Below.refl _ _)) rfl (fun j u _ _ hu=>CndO.keep (Below.refl _ _) hu)
  ·intro listed A0 W hA hno hr K hK
   have e5:A0.tmps[5]?.getD undef=.pointer (some ⟨w.heap.size,1,none⟩):=slot_is (hA.val 2 _ rfl (hr ⟨2,.data⟩ (by simp) rfl))
   have c0:W.cell? ⟨w.heap.size,1,none⟩=some (.int .i64 st):=hA.c.kb.cell 1
   simp [go_sem,e5,c0]
   exact hK _ _ (hA.c.step 3 6 _ (by omega) (by omega) (by omega) (by omega) (by omega) (Below.refl _ _)) rfl (fun j u _ _ hu=>CndO.keep (Below.refl _ _) hu)
  ·intro listed A0 W hA hno hr K hK
   simp [go_sem]
   exact hK _ _ (hA.c.step 4 7 _ (by omega) (by omega) (by omega) (by omega) (by omega) (below1 _ _)) ⟨_,rfl⟩ (fun j u _ _ hu=>CndO.keep (below1 _ _) hu)
  ·intro listed A0 W hA hno hr K hK
   have e1:A0.tmps[1]?.getD undef=.pointer (some ⟨w.heap.size,0,none⟩):=slot_is ((hA.kept 1 (Free.not_dst (by kernel_rfl))).trans rfl)
   simp [go_sem,e1]
   exact hK _ _ (hA.c.step 5 8 _ (by omega) (by omega) (by omega) (by omega) (by omega) (Below.refl _ _)) rfl (fun j u _ _ hu=>CndO.keep (Below.refl _ _) hu)
  ·intro listed A0 W hA hno hr K hK
   have e8:A0.tmps[8]?.getD undef=.pointer (some ⟨w.heap.size,2,none⟩):=slot_is (hA.val 5 _ rfl (hr ⟨5,.data⟩ (by simp) rfl))
   have c0:W.cell? ⟨w.heap.size,2,none⟩=some (.slice A m p):=hA.c.kb.cell 2
   simp [go_sem,e8,c0]
   exact hK _ _ (hA.c.step 6 9 _ (by omega) (by omega) (by omega) (by omega) (by omega) (Below.refl _ _)) rfl (fun j u _ _ hu=>CndO.keep (Below.refl _ _) hu)
  ·intro listed A0 W hA hno hr K hK
   obtain ⟨g0,e7⟩:∃ g0,A0.tmps[7]?.getD undef=.slice (some ⟨g0,0,none⟩) 0 0:=slot_emp (hA.val 4 _ rfl (hr ⟨4,.data⟩ (by simp) rfl))
   have e9:A0.tmps[9]?.getD undef=.slice A m p:=slot_is (hA.val 6 _ rfl (hr ⟨6,.data⟩ (by simp) rfl))
   obtain ⟨p',W5,R,own5,hb,hsz⟩:=from_empty (T:=51) Tryz.underlying51 infoI rfl (hsa.later hA.c.b) (p:=p) (by omega) (by omega) g0 hA.c.s
   unfold Oper.wp
   simp only [execOp,resolve,invoke,builtin,Sem.run_bind,Sem.run_pure,Result.andThen_ok,List.map_toArray,List.map_cons,List.map_nil,Act.eval,Array.getD_eq_getD_getElem?,e7,e9,R]
   exact hK _ _ (hA.c.app7 (by have:=hA.slots; simp at this; omega) (fun hl=>hA.val 11 _ rfl hl) _ hb) ⟨_,p',rfl,own5⟩ (fun j u _ _ hu=>CndO.keep hb hu)
  ·intro listed A0 W hA hno hr K hK
   simp [go_sem]
   exact hK _ _ (hA.c.step 8 11 _ (by omega) (by omega) (by omega) (by omega) (by omega) (below1 _ _)) ⟨_,rfl⟩ (fun j u _ _ hu=>CndO.keep (below1 _ _) hu)
  ·intro listed A0 W hA hno hr K hK
   have e1:A0.tmps[1]?.getD undef=.pointer (some ⟨w.heap.size,0,none⟩):=slot_is ((hA.kept 1 (Free.not_dst (by kernel_rfl))).trans rfl)
   simp [go_sem,e1]
   exact hK _ _ (hA.c.step 9 12 _ (by omega) (by omega) (by omega) (by omega) (by omega) (Below.refl _ _)) rfl (fun j u _ _ hu=>CndO.keep (Below.refl _ _) hu)
  ·intro listed A0 W hA hno hr K hK
   have e12:A0.tmps[12]?.getD undef=.pointer (some ⟨w.heap.size,3,none⟩):=slot_is (hA.val 9 _ rfl (hr ⟨9,.data⟩ (by simp) rfl))
   have c0:W.cell? ⟨w.heap.size,3,none⟩=some (.slice B k q):=hA.c.kb.cell 3
   simp [go_sem,e12,c0]
   exact hK _ _ (hA.c.step 10 13 _ (by omega) (by omega) (by omega) (by omega) (by omega) (Below.refl _ _)) rfl (fun j u _ _ hu=>CndO.keep (Below.refl _ _) hu)
  ·intro listed A0 W hA hno hr K hK
   obtain ⟨g0,e11⟩:∃ g0,A0.tmps[11]?.getD undef=.slice (some ⟨g0,0,none⟩) 0 0:=slot_emp (hA.val 8 _ rfl (hr ⟨8,.data⟩ (by simp) rfl))
   have e13:A0.tmps[13]?.getD undef=.slice B k q:=slot_is (hA.val 10 _ rfl (hr ⟨10,.data⟩ (by simp) rfl))
   obtain ⟨p',W5,R,own5,hb,hsz⟩:=from_empty (T:=51) Tryz.underlying51 infoI rfl (hsb.later hA.c.b) (p:=q) (by omega) (by omega) g0 hA.c.s
   unfold Oper.wp
   simp only [execOp,resolve,invoke,builtin,Sem.run_bind,Sem.run_pure,Result.andThen_ok,List.map_toArray,List.map_cons,List.map_nil,Act.eval,Array.getD_eq_getD_getElem?,e11,e13,R]
   exact hK _ _ (hA.c.app11 (by have:=hA.slots; simp at this; omega) (fun hl=>hA.val 7 _ rfl hl) _ hb) ⟨_,p',rfl,own5⟩ (fun j u _ _ hu=>CndO.keep hb hu)
  ·intro listed A0 W hA hno hr K hK
   simp [go_sem]
   exact hK _ _ (hA.c.step 12 15 _ (by omega) (by omega) (by omega) (by omega) (by omega) (below1 _ _)) ⟨_,rfl⟩ (fun j u _ _ hu=>CndO.keep (below1 _ _) hu)
  ·intro listed A0 W hA hno hr K hK
   have e1:A0.tmps[1]?.getD undef=.pointer (some ⟨w.heap.size,0,none⟩):=slot_is ((hA.kept 1 (Free.not_dst (by kernel_rfl))).trans rfl)
   simp [go_sem,e1]
   exact hK _ _ (hA.c.step 13 16 _ (by omega) (by omega) (by omega) (by omega) (by omega) (Below.refl _ _)) rfl (fun j u _ _ hu=>CndO.keep (Below.refl _ _) hu)
  ·intro listed A0 W hA hno hr K hK
   have e16:A0.tmps[16]?.getD undef=.pointer (some ⟨w.heap.size,4,none⟩):=slot_is (hA.val 13 _ rfl (hr ⟨13,.data⟩ (by simp) rfl))
   have c0:W.cell? ⟨w.heap.size,4,none⟩=some (.slice C n r):=hA.c.kb.cell 4
   simp [go_sem,e16,c0]
   exact hK _ _ (hA.c.step 14 17 _ (by omega) (by omega) (by omega) (by omega) (by omega) (Below.refl _ _)) rfl (fun j u _ _ hu=>CndO.keep (Below.refl _ _) hu)
  ·intro listed A0 W hA hno hr K hK
   obtain ⟨g0,e15⟩:∃ g0,A0.tmps[15]?.getD undef=.slice (some ⟨g0,0,none⟩) 0 0:=slot_emp (hA.val 12 _ rfl (hr ⟨12,.data⟩ (by simp) rfl))
   have e17:A0.tmps[17]?.getD undef=.slice C n r:=slot_is (hA.val 14 _ rfl (hr ⟨14,.data⟩ (by simp) rfl))
   obtain ⟨p',W5,R,own5,hb,hsz⟩:=from_empty (T:=62) Tryz.underlying62 infoU rfl (hsc.later hA.c.b) (p:=r) (by omega) (by omega) g0 hA.c.s
   unfold Oper.wp
   simp only [execOp,resolve,invoke,builtin,Sem.run_bind,Sem.run_pure,Result.andThen_ok,List.map_toArray,List.map_cons,List.map_nil,Act.eval,Array.getD_eq_getD_getElem?,e15,e17,R]
   exact hK _ _ (hA.c.step 15 18 _ (by omega) (by omega) (by omega) (by omega) (by omega) hb) ⟨_,p',rfl,own5⟩ (fun j u _ _ hu=>CndO.keep hb hu)
  ·intro listed A0 W hA hno hr K hK
   have e4:A0.tmps[4]?.getD undef=.int .i64 sg:=slot_is (hA.val 1 _ rfl (hr ⟨1,.data⟩ (by simp) rfl))
   have e6:A0.tmps[6]?.getD undef=.int .i64 st:=slot_is (hA.val 3 _ rfl (hr ⟨3,.data⟩ (by simp) rfl))
   obtain ⟨g7,p7,e10,o7⟩:=slot_own (hA.val 7 _ rfl (hr ⟨7,.data⟩ (by simp) rfl))
   obtain ⟨g11,p11,e14,o11⟩:=slot_own (hA.val 11 _ rfl (hr ⟨11,.data⟩ (by simp) rfl))
   obtain ⟨g15,p15,e18,o15⟩:=slot_own (hA.val 15 _ rfl (hr ⟨15,.data⟩ (by simp) rfl))
   have hd:=hA.c.d (hr ⟨7,.data⟩ (by simp) rfl) (hr ⟨11,.data⟩ (by simp) rfl) g7 g11 p7 p11 (by simpa using e10) (by simpa using e14)
   simp [go_sem,e4,e6,e10,e14,e18]
   exact hK _ _ (hA.c.step 16 19 _ (by omega) (by omega) (by omega) (by omega) (by omega) (Below.refl _ _)) ⟨_,_,_,_,_,_,rfl,o7,o11,o15,fun g h1 h2=>by injection h1 with h1; injection h2 with h2; exact hd (h1.trans h2.symm)⟩ (fun j u _ _ hu=>CndO.keep (Below.refl _ _) hu)
  ·intro listed A0 W hA hno hr K hK
   have e2:A0.tmps[2]?.getD undef=.pointer (some ⟨(w.heap.size+1),0,none⟩):=slot_is ((hA.kept 2 (Free.not_dst (by kernel_rfl))).trans rfl)
   obtain ⟨A1,p1,B1,q1,C1,r1,e19,R3⟩:=slot_row3 (hA.val 16 _ rfl (hr ⟨16,.data⟩ (by simp) rfl))
   have hz:=hA.c.z (getD_no (by have:=hA.size; simpa using this) hno)
   refine wp_store_row _ (.tmp 2) (.tmp 19) rfl (w.heap.size+1) (csT sg st A1 m p1 B1 k q1 C1 n r1) (by simpa [Act.eval] using e2) (by simpa [Act.eval,csT] using e19) _ _ hz info_r rfl (csT_one _ _ _ _ _ _ _ _ _ _ _) ?_
   exact hK _ _ (hA.c.store (by have:=hA.size; simpa using this) _) ⟨A1,p1,B1,q1,C1,r1,hz.row _,R3.row hA.c.lt⟩ (fun j u hj _ hu=>CndO.keep_row hA.c.lt hj hu)
 ·intro A0 W hA
  obtain ⟨A1,p1,B1,q1,C1,r1,K5,R3⟩:=hA.val 17 _ rfl rfl
  have e2:A0.tmps.getD 2 undef=.pointer (some ⟨w.heap.size+1,0,none⟩):=(hA.kept 2 (Free.not_dst (by kernel_rfl))).trans rfl
  have hb:=hA.c.b
  have hde:=hA.defers
  clear hA
  obtain ⟨tm,de⟩:=A0
  simp only at e2 hde
  subst hde
  go_wp2_with fail
  exact bodyPost_ret (res_r1 rfl tm W (w.heap.size+1) e2 K5) rfl ⟨A1,p1,B1,q1,C1,r1,rfl,R3.wide (by omega),hb⟩
open Go.RowKit Go.Lib
set_option linter.unusedVariables false
theorem arrF21 {cs:Array Value} (h:cs.size=21):∃ y:Nat→Value,(∀ i,cs.getD i undef=y i)∧cs=#[y 0,y 1,y 2,y 3,y 4,y 5,y 6,y 7,y 8,y 9,y 10,y 11,y 12,y 13,y 14,y 15,y 16,y 17,y 18,y 19,y 20]:=by
 refine ⟨fun i=>cs.getD i undef,fun _=>rfl,?_⟩
 have e:cs=((List.range 21).map fun i=>cs.getD i undef).toArray:=by
  apply Array.ext
  ·simp [h]
  ·intro i h1 h2
   simp [h1]
 exact e.trans rfl
set_option maxRecDepth 100000 in
set_option maxHeartbeats 4000000 in
theorem rroom_is (sg st:Int) (A:Option Addr) (m p:Nat) (B:Option Addr) (k q:Nat) (C:Option Addr) (n r:Nat) (o l f:List Int) (y:Int) (w:World) (h:TIn w A m B k C n o l f) (hok:okP ⟨sg,st,o,l,f⟩) (hy:roomT ⟨sg,st,o,l,f⟩=y) :
 Calls Tryz.prog 101 #[.agg #[.int .i64 sg,.int .i64 st,.slice A m p,.slice B k q,.slice C n r]] w fun e w'=>e=.returned (.int .i64 y)∧Below w.heap.size w w':=by
 have hm:=(ok_full hok h).2.1
 have hk:=(ok_full hok h).2.2.1
 have hml:=(ok_full hok h).2.2.2.2.1
 have hsl:k=l.length:=h.b.len
 have hol:m=o.length:=h.a.len
 have hlast:=hok.2.2.2.2.2.1 _ (last_mem (l:=l) (by omega))
 simp only at hlast
 have hf:=ok_free hok
 have hbd:=ok_bounds hok
 have h1:=hok.1
 have h2:=hok.2.1
 simp only at h1 h2 hf
 obtain ⟨gg,off,rfl,hbb,hcell⟩:=last_cell h.b (by omega)
 obtain ⟨z,HZ⟩:∃ z,Hid (lastN l=z):=⟨_,Lib.hid rfl⟩
 rw [HZ.out] at hlast hcell
 have hbx:=below1 w (.cells #[.int .i64 sg,.int .i64 st,.slice A m p,.slice (some ⟨gg,off,none⟩) k q,.slice C n r] 100)
 obtain ⟨i,Hi⟩:∃ i,Hid (k-1=i):=⟨_,Lib.hid rfl⟩
 rw [Hi.out] at hcell
 have hik:i<k:=by have:=Hi.out; omega
 have hiki:(i:Int)<(k:Int):=by omega
 obtain ⟨d1,E1⟩:∃ d,Hid (st-z=d):=⟨_,Lib.hid rfl⟩
 obtain ⟨d3,E3⟩:∃ d,Hid (((freeT ⟨sg,st,o,l,f⟩).length:Int)*st=d):=⟨_,Lib.hid rfl⟩
 have e3:d1+d3=y:=by
  rw [← hy,← E1.out,← E3.out,← HZ.out]
  unfold roomT
  simp only
  rw [show sg-(o.length:Int)=((freeT ⟨sg,st,o,l,f⟩).length:Int) by omega,Int.mul_comm st]
 have b3:0≤d3∧d3≤480:=by
  have h3:=hbd.r
  rw [hy] at h3
  refine ⟨?_,by have:=E1.out; omega⟩
  rw [← E3.out]
  exact Int.mul_nonneg (by omega) (by omega)
 have q0:IntKind.i64.wrap ((k:Int)-1)=(i:Int):=by rw [IntWalk.i64_in _ (by omega)]; have:=Hi.out; omega
 have q1:IntKind.i64.wrap (st-z)=d1:=by rw [E1.out]; exact IntWalk.i64_in _ (by have:=E1.out; omega)
 have q3:IntKind.i64.wrap (((freeT ⟨sg,st,o,l,f⟩).length:Int)*st)=d3:=by rw [E3.out]; exact IntWalk.i64_in _ (by omega)
 have q4:IntKind.i64.wrap (d1+d3)=y:=by rw [e3]; exact IntWalk.i64_in _ (by have:=hbd.r; rw [hy] at this; omega)
 have I:Its w [(w.heap.size,100,csT sg st A m p (some ⟨gg,off,none⟩) k q C n r)] [(.i64,A,m,o),(.i64,(some ⟨gg,off,none⟩),k,l),(.u64,C,n,f)] (w.alloc (.cells #[.int .i64 sg,.int .i64 st,.slice A m p,.slice (some ⟨gg,off,none⟩) k q,.slice C n r] 100)):=((Its.nil hbx).cons (Blk.new w _ _)).tcons (h.later hbx)
 clear hlast hbd hf h hbx hsl hol hk
 go_enter Tryz.func101,Tryz.ntmps101
 go_wp2_with fail
 refine wp_its [.is (.pointer (some ⟨w.heap.size,1,none⟩)),
  .is (.int .i64 (st)),
  .is (.pointer (some ⟨w.heap.size,3,none⟩)),
  .is (.slice (some ⟨gg,off,none⟩) k q),
  .is (.pointer (some ⟨w.heap.size,3,none⟩)),
  .is (.slice (some ⟨gg,off,none⟩) k q),
  .is (.int .i64 ((k:Nat))),
  .is (.int .i64 ((i:Int))),
  .is (.pointer (some ⟨gg,off+i,none⟩)),
  .is (.int .i64 (z)),
  .is (.int .i64 (d1)),
  .is (.agg #[.int .i64 (sg),.int .i64 (st),.slice A m p,.slice (some ⟨gg,off,none⟩) k q,.slice C n r]),
  .lst (freeT ⟨sg,st,o,l,f⟩),
  .is (.int .i64 (((freeT ⟨sg,st,o,l,f⟩).length:Nat))),
  .is (.pointer (some ⟨w.heap.size,1,none⟩)),
  .is (.int .i64 (st)),
  .is (.int .i64 (d3)),
  .is (.int .i64 (y)),
  .is (.int .i64 (y))] [(w.heap.size,100,csT sg st A m p (some ⟨gg,off,none⟩) k q C n r)] [(.i64,A,m,o),(.i64,(some ⟨gg,off,none⟩),k,l),(.u64,C,n,f)] (by kernel_rfl) (by kernel_rfl) I ?_ ?_
 ·refine ⟨?_,?_,?_,?_,?_,?_,?_,?_,?_,?_,?_,?_,?_,?_,?_,?_,?_,?_,?_,trivial⟩
  ·intro listed A0 W hA hr K hK
   have e1:A0.tmps[1]?.getD undef=.pointer (some ⟨w.heap.size,0,none⟩):=slot_is ((hA.kept 1 (Free.not_dst (by kernel_rfl))).trans rfl)
   rw [if_pos (FreeG.wanted_plain rfl)]
   simp [go_sem,e1]
   exact hK _ _ (Below.refl _ _) rfl
  ·intro listed A0 W hA hr K hK
   have e3:A0.tmps[3]?.getD undef=.pointer (some ⟨w.heap.size,1,none⟩):=slot_is (hA.val 0 _ rfl (hr ⟨0,.data⟩ (by simp) rfl))
   have f0:W.cell? ⟨w.heap.size,1,none⟩=some (.int .i64 (st)):=(hA.c.at_ 0 rfl).cell 1
   rw [if_pos (FreeG.wanted_plain rfl)]
   simp [go_sem,e3,f0]
   exact hK _ _ (Below.refl _ _) rfl
  ·intro listed A0 W hA hr K hK
   have e1:A0.tmps[1]?.getD undef=.pointer (some ⟨w.heap.size,0,none⟩):=slot_is ((hA.kept 1 (Free.not_dst (by kernel_rfl))).trans rfl)
   rw [if_pos (FreeG.wanted_plain rfl)]
   simp [go_sem,e1]
   exact hK _ _ (Below.refl _ _) rfl
  ·intro listed A0 W hA hr K hK
   have e5:A0.tmps[5]?.getD undef=.pointer (some ⟨w.heap.size,3,none⟩):=slot_is (hA.val 2 _ rfl (hr ⟨2,.data⟩ (by simp) rfl))
   have f0:W.cell? ⟨w.heap.size,3,none⟩=some (.slice (some ⟨gg,off,none⟩) k q):=(hA.c.at_ 0 rfl).cell 3
   rw [if_pos (FreeG.wanted_plain rfl)]
   simp [go_sem,e5,f0]
   exact hK _ _ (Below.refl _ _) rfl
  ·intro listed A0 W hA hr K hK
   have e1:A0.tmps[1]?.getD undef=.pointer (some ⟨w.heap.size,0,none⟩):=slot_is ((hA.kept 1 (Free.not_dst (by kernel_rfl))).trans rfl)
   rw [if_pos (FreeG.wanted_plain rfl)]
   simp [go_sem,e1]
   exact hK _ _ (Below.refl _ _) rfl
  ·intro listed A0 W hA hr K hK
   have e7:A0.tmps[7]?.getD undef=.pointer (some ⟨w.heap.size,3,none⟩):=slot_is (hA.val 4 _ rfl (hr ⟨4,.data⟩ (by simp) rfl))
   have f0:W.cell? ⟨w.heap.size,3,none⟩=some (.slice (some ⟨gg,off,none⟩) k q):=(hA.c.at_ 0 rfl).cell 3
   rw [if_pos (FreeG.wanted_plain rfl)]
   simp [go_sem,e7,f0]
   exact hK _ _ (Below.refl _ _) rfl
  ·intro listed A0 W hA hr K hK
   have e8:A0.tmps[8]?.getD undef=.slice (some ⟨gg,off,none⟩) k q:=slot_is (hA.val 5 _ rfl (hr ⟨5,.data⟩ (by simp) rfl))
   rw [if_pos (FreeG.wanted_plain rfl)]
   simp [go_sem,e8]
   exact hK _ _ (Below.refl _ _) rfl
  ·intro listed A0 W hA hr K hK
   have e9:A0.tmps[9]?.getD undef=.int .i64 ((k:Nat)):=slot_is (hA.val 6 _ rfl (hr ⟨6,.data⟩ (by simp) rfl))
   rw [if_pos (FreeG.wanted_plain rfl)]
   simp [go_sem,e9,q0]
   exact hK _ _ (Below.refl _ _) rfl
  ·intro listed A0 W hA hr K hK
   have e6:A0.tmps[6]?.getD undef=.slice (some ⟨gg,off,none⟩) k q:=slot_is (hA.val 3 _ rfl (hr ⟨3,.data⟩ (by simp) rfl))
   have e10:A0.tmps[10]?.getD undef=.int .i64 ((i:Int)):=slot_is (hA.val 7 _ rfl (hr ⟨7,.data⟩ (by simp) rfl))
   rw [if_pos (FreeG.wanted_plain rfl)]
   simp [go_sem,e6,e10,hiki]
   exact hK _ _ (Below.refl _ _) rfl
  ·intro listed A0 W hA hr K hK
   have e11:A0.tmps[11]?.getD undef=.pointer (some ⟨gg,off+i,none⟩):=slot_is (hA.val 8 _ rfl (hr ⟨8,.data⟩ (by simp) rfl))
   rw [if_pos (FreeG.wanted_plain rfl)]
   have c0:=((bcell hA.c.b).1 gg (off+i) hbb).trans hcell
   simp [go_sem,e11,c0]
   exact hK _ _ (Below.refl _ _) rfl
  ·intro listed A0 W hA hr K hK
   have e4:A0.tmps[4]?.getD undef=.int .i64 (st):=slot_is (hA.val 1 _ rfl (hr ⟨1,.data⟩ (by simp) rfl))
   have e12:A0.tmps[12]?.getD undef=.int .i64 (z):=slot_is (hA.val 9 _ rfl (hr ⟨9,.data⟩ (by simp) rfl))
   rw [if_pos (FreeG.wanted_plain rfl)]
   simp [go_sem,e4,e12,q1]
   exact hK _ _ (Below.refl _ _) rfl
  ·intro listed A0 W hA hr K hK
   have e1:A0.tmps[1]?.getD undef=.pointer (some ⟨w.heap.size,0,none⟩):=slot_is ((hA.kept 1 (Free.not_dst (by kernel_rfl))).trans rfl)
   have f0:W.cell? ⟨w.heap.size,0,none⟩=some (.int .i64 (sg)):=(hA.c.at_ 0 rfl).cell 0
   have f1:W.cell? ⟨w.heap.size,1,none⟩=some (.int .i64 (st)):=(hA.c.at_ 0 rfl).cell 1
   have f2:W.cell? ⟨w.heap.size,2,none⟩=some (.slice A m p):=(hA.c.at_ 0 rfl).cell 2
   have f3:W.cell? ⟨w.heap.size,3,none⟩=some (.slice (some ⟨gg,off,none⟩) k q):=(hA.c.at_ 0 rfl).cell 3
   have f4:W.cell? ⟨w.heap.size,4,none⟩=some (.slice C n r):=(hA.c.at_ 0 rfl).cell 4
   rw [if_pos (FreeG.wanted_plain rfl)]
   simp [go_sem,e1,f0,f1,f2,f3,f4]
   exact hK _ _ (Below.refl _ _) rfl
  ·intro listed A0 W hA hr K hK
   have e14:A0.tmps[14]?.getD undef=.agg #[.int .i64 (sg),.int .i64 (st),.slice A m p,.slice (some ⟨gg,off,none⟩) k q,.slice C n r]:=slot_is (hA.val 11 _ rfl (hr ⟨11,.data⟩ (by simp) rfl))
   rw [if_pos (FreeG.wanted_plain rfl)]
   simp [go_sem,e14]
   refine (rfree_any sg st A m p (some ⟨gg,off,none⟩) k q C n r o l f _ (hA.c.tab 0 rfl rfl rfl) hml ⟨by omega,h1.2⟩).mono ?_
   rintro e' w' ⟨A1,m1,p1,rfl,h1,hb⟩
   exact hK _ _ hb ⟨A1,m1,p1,rfl,h1⟩
  ·intro listed A0 W hA hr K hK
   have e15:∃ A m p,A0.tmps[15]?.getD undef=.slice A m p∧Sl .i64 W A m (freeT ⟨sg,st,o,l,f⟩):=slot_lst (hA.val 12 _ rfl (hr ⟨12,.data⟩ (by simp) rfl))
   rw [if_pos (FreeG.wanted_plain rfl)]
   obtain ⟨A1,m1,p1,h1,h2⟩:=e15
   simp [go_sem,h1]
   exact hK _ _ (Below.refl _ _) (show Value.int .i64 _=.int .i64 _ from by rw [h2.len])
  ·intro listed A0 W hA hr K hK
   have e1:A0.tmps[1]?.getD undef=.pointer (some ⟨w.heap.size,0,none⟩):=slot_is ((hA.kept 1 (Free.not_dst (by kernel_rfl))).trans rfl)
   rw [if_pos (FreeG.wanted_plain rfl)]
   simp [go_sem,e1]
   exact hK _ _ (Below.refl _ _) rfl
  ·intro listed A0 W hA hr K hK
   have e17:A0.tmps[17]?.getD undef=.pointer (some ⟨w.heap.size,1,none⟩):=slot_is (hA.val 14 _ rfl (hr ⟨14,.data⟩ (by simp) rfl))
   have f0:W.cell? ⟨w.heap.size,1,none⟩=some (.int .i64 (st)):=(hA.c.at_ 0 rfl).cell 1
   rw [if_pos (FreeG.wanted_plain rfl)]
   simp [go_sem,e17,f0]
   exact hK _ _ (Below.refl _ _) rfl
  ·intro listed A0 W hA hr K hK
   have e16:A0.tmps[16]?.getD undef=.int .i64 (((freeT ⟨sg,st,o,l,f⟩).length:Nat)):=slot_is (hA.val 13 _ rfl (hr ⟨13,.data⟩ (by simp) rfl))
   have e18:A0.tmps[18]?.getD undef=.int .i64 (st):=slot_is (hA.val 15 _ rfl (hr ⟨15,.data⟩ (by simp) rfl))
   rw [if_pos (FreeG.wanted_plain rfl)]
   simp [go_sem,e16,e18,q3]
   exact hK _ _ (Below.refl _ _) rfl
  ·intro listed A0 W hA hr K hK
   have e13:A0.tmps[13]?.getD undef=.int .i64 (d1):=slot_is (hA.val 10 _ rfl (hr ⟨10,.data⟩ (by simp) rfl))
   have e19:A0.tmps[19]?.getD undef=.int .i64 (d3):=slot_is (hA.val 16 _ rfl (hr ⟨16,.data⟩ (by simp) rfl))
   rw [if_pos (FreeG.wanted_plain rfl)]
   simp [go_sem,e13,e19,q4]
   exact hK _ _ (Below.refl _ _) rfl
  ·intro listed A0 W hA hr K hK
   have e20:A0.tmps[20]?.getD undef=.int .i64 (y):=slot_is (hA.val 17 _ rfl (hr ⟨17,.data⟩ (by simp) rfl))
   rw [if_pos (FreeG.wanted_plain rfl)]
   simp [go_sem,e20]
   exact hK _ _ (Below.refl _ _) rfl
 ·intro A0 W hA
  have s6:A0.tmps.getD 2 undef=.int .i64 y:=hA.val 18 _ rfl rfl
  have hsz:=hA.slots
  have hde:=hA.defers
  have hb:=hA.c.b
  clear hA
  obtain ⟨tm,de⟩:=A0
  simp only at s6 hsz hde
  obtain ⟨y',hy',rfl⟩:=arrF21 hsz
  have t6:y' 2=.int .i64 y:=(hy' 2).symm.trans s6
  subst hde
  clear s6 hsz hy'
  go_wp2_with fail
  go_ret
  exact ⟨by rw [t6]; rfl,hb⟩
open Go.RowKit Go.Lib
set_option linter.unusedVariables false
def LstO (l:List Int) (w:World) (en:Ending) (w' : World):Prop:=∃ A m p,en=.returned (.slice A m p)∧w'.ownsRow w.heap.size 3 1 (.slice A m p) m (iv .i64 l)∧Below w.heap.size w w'
set_option maxHeartbeats 2000000 in
theorem rfree_mainO (N:Nat) (st:Int) (A:Option Addr) (m p:Nat) (B:Option Addr) (k q:Nat) (C:Option Addr) (n r:Nat) (o l f:List Int) (w:World) (h:TIn w A m B k C n o l f) (hm:m≤maxLen) (hN:N≤16) :
 Calls Tryz.prog 42 #[.agg #[.int .i64 (N:Int),.int .i64 st,.slice A m p,.slice B k q,.slice C n r]] w (LstO (freeTo o N) w):=by
 have HT:=Lib.hid h
 have hb0:=below1 w (.cells #[.int .i64 (N:Int),.int .i64 st,.slice A m p,.slice B k q,.slice C n r] 100)
 have hb1:=below1 (w.alloc (.cells #[.int .i64 (N:Int),.int .i64 st,.slice A m p,.slice B k q,.slice C n r] 100)) (.cells #[] 3)
 have I0:Hid (FrI w (N:Int) st A m p B k q C n r o 0 (some ⟨w.heap.size+1,0,none⟩) 0 0 ((w.alloc (.cells #[.int .i64 (N:Int),.int .i64 st,.slice A m p,.slice B k q,.slice C n r] 100)).alloc (.cells #[] 3))):=Lib.hid
  ⟨Ge.trans hb0 hb1,(Blk.new w _ _).later hb1,by
   have:=World.ownsRow_lit (base:=w.heap.size+1) (e:=3) (size:=1) (w.alloc (.cells #[.int .i64 (N:Int),.int .i64 st,.slice A m p,.slice B k q,.slice C n r] 100)) #[] 0 (by simp) (Nat.zero_le _) rfl
   rw [show (w.alloc (.cells #[.int .i64 (N:Int),.int .i64 st,.slice A m p,.slice B k q,.slice C n r] 100)).heap.size=w.heap.size+1 by simp] at this
   rw [freeTo_zero]
   exact this⟩
 clear hb0 hb1 h
 go_enter Tryz.func42,Tryz.ntmps42
 go_wp2_with fail
 go_loopg [3,4] N (fun gk s3 s4 wr=>∃ i:Nat,∃ D c e,i≤N∧gk=N-i∧s4=.int .i64 i∧s3=.slice D c e∧Hid (FrI w (N:Int) st A m p B k q C n r o i D c e wr))
 case atStart=>exact ⟨0,_,_,_,by omega,rfl,rfl,rfl,I0⟩
 case round =>
  obtain ⟨i,D,c,e,hi,hgk,rfl,rfl,HI⟩:=hrel
  have HG:=Lib.hid hgk
  clear hgk
  have c0:wr.cell? ⟨w.heap.size,0,none⟩=some (.int .i64 (N:Int)):=HI.out.z.cell 0
  by_cases hlt:i<N
  ·have hlti:(i:Int)<(N:Int):=by omega
   have HZ:=Lib.hid HI.out.z
   obtain ⟨y,HY⟩:∃ y,Hid (idx o (i:Int)=y):=⟨_,Lib.hid rfl⟩
   have K:=Lib.hid (in_is (N:Int) st A m p B k q C n r o l f (i:Int) y wr (HT.out.later HI.out.b) hm HY.out)
   by_cases hy:y<0
   ·have HO:Hid ((i:Int) ∉ o):=Lib.hid (idx_neg.1 (by rw [HY.out]; exact hy))
    go_wp2_with (with_reducible refine load_r rfl (.tmp 1) rfl w.heap.size rfl HZ.out ?_)
    refine K.out.mono ?_
    rintro e' w1 ⟨rfl,hb⟩
    have I1:=HI.out.later hb
    have hbb:=below1 w1 (.cells #[.int .i64 (i:Int)] 3)
    have I2:=I1.later hbb
    have hcl:c<1000:=by
     have:=I1.d.1
     rw [iv_len] at this
     have:=freeTo_len o i
     omega
    obtain ⟨g,e2,W5,hrun,own5,g5,hat,hg⟩:=push_run (T:=51) Tryz.underlying51 infoI rfl I2.d hcl ((Blk.new w1 3 #[.int .i64 (i:Int)]).cell 0) (by have:=I2.z.lt; omega)
    have hrow:∀ j,ob D=some j→w.heap.size+1≤j:=fun j hj=>(I2.d.lt j (by rw [ob_eq]; exact hj)).1
    have I5:Hid (FrI w (N:Int) st A m p B k q C n r o (i+1) (some ⟨g,0,none⟩) (c+1) e2 W5):=Lib.hid
     ⟨I2.b.grown g5 I2.b.size (fun j hj=>by have:=hrow j hj; omega),blk_grown I2.z g5 (fun e=>by have:=hrow _ e.symm; omega),by rw [freeTo_yes HO.out]; exact own5⟩
    have HR:=Lib.hid hrun
    clear hrun own5 g5 hat hg hrow I1 I2 hbb hb K c0
    go_wp2_with (at_builtin; refine list_append_run rfl (.tmp 16) (.tmp 18) 51 rfl _ _ rfl rfl HR.out ?_)
    go_roundg (N-(i+1))
    case measure=>have:=HG.out; omega
    case rel=>exact ⟨i+1,_,_,_,by omega,rfl,by go_num,rfl,I5⟩
   ·have HO:Hid ((i:Int)∈o):=Lib.hid (Decidable.byContradiction fun hn=>hy (by rw [← HY.out]; exact idx_neg.2 hn))
    go_wp2_with (with_reducible refine load_r rfl (.tmp 1) rfl w.heap.size rfl HZ.out ?_)
    refine K.out.mono ?_
    rintro e' w1 ⟨rfl,hb⟩
    have I1:Hid (FrI w (N:Int) st A m p B k q C n r o (i+1) D c e w1):=Lib.hid (by
     have:=HI.out.later hb
     exact ⟨this.b,this.z,by rw [freeTo_no HO.out]; exact this.d⟩)
    clear hb K c0
    go_wp2_with fail
    go_roundg (N-(i+1))
    case measure=>have:=HG.out; omega
    case rel=>exact ⟨i+1,D,c,e,by omega,rfl,by go_num,rfl,I1⟩
  ·obtain rfl:i=N:=by omega
   have hlti:¬ (i:Int)<(i:Int):=by omega
   go_wp2_with fail
   go_ret
   exact ⟨D,c,e,rfl,own_base HI.out.d (by omega),HI.out.b⟩
theorem rfree_own (sg st:Int) (A:Option Addr) (m p:Nat) (B:Option Addr) (k q:Nat) (C:Option Addr) (n r:Nat) (o l f:List Int) (w:World) (h:TIn w A m B k C n o l f) (hm:m≤maxLen) (hs:0≤sg∧sg≤16):Calls Tryz.prog 42 #[.agg #[.int .i64 sg,.int .i64 st,.slice A m p,.slice B k q,.slice C n r]] w (LstO (freeT ⟨sg,st,o,l,f⟩) w):=by
 obtain ⟨N,rfl⟩:=Int.eq_ofNat_of_zero_le hs.1
 exact rfree_mainO N st A m p B k q C n r o l f w h hm (by omega)
def RefF (t:Tab) (y:Int) (w:World) (en:Ending) (w' : World):Prop :=
 ∃ A m p B k q C n r,en=.returned (.tuple #[.agg #[.int .i64 t.sg,.int .i64 t.st,.slice A m p,.slice B k q,.slice C n r],.int .i64 y])∧TIn w' A m B k C n t.o t.l t.f∧(Fresh w' w.heap.size A m∧Fresh w' w.heap.size B k∧Fresh w' w.heap.size C n)∧Below w.heap.size w w'
theorem zero_reff (y:Int) (w w' : World) (hb:Below w.heap.size w w'):RefF zeroT y w (.returned (.tuple #[.agg #[.int .i64 0,.int .i64 0,.slice none 0 0,.slice none 0 0,.slice none 0 0],.int .i64 y])) w' :=
 ⟨none,0,0,none,0,0,none,0,0,rfl,TIn.zero _,⟨fresh_nil _ _ _,fresh_nil _ _ _,fresh_nil _ _ _⟩,hb⟩
def RefV (sg st:Int) (o l f:List Int) (y:Int) (w:World) (en:Ending) (w' : World):Prop :=
 ∃ A m p B k q C n r,en=.returned (.tuple #[.agg #[.int .i64 sg,.int .i64 st,.slice A m p,.slice B k q,.slice C n r],.int .i64 y])∧TIn w' A m B k C n o l f∧(Fresh w' w.heap.size A m∧Fresh w' w.heap.size B k∧Fresh w' w.heap.size C n)∧Below w.heap.size w w'
theorem refv {P:Program} {f:FuncId} {args:Array Value} {w:World} {t:Tab} {y y' sg st:Int} {o l f' : List Int} (h:Calls P f args w (RefF t y w)) (ht:t=⟨sg,st,o,l,f'⟩) (hy:y=y'):Calls P f args w (RefV sg st o l f' y' w):=by
 subst ht hy; exact h
theorem own_far {W:World} {base b n:Nat} {e T:TypeId} {v:Value} {xs:List Value} {cs:Array Value} (h:W.ownsRow base e 1 v n xs) (hB:Blk W b T cs) (hne:e≠T) (vs:Array Value):(W.setRow b vs).ownsRow base e 1 v n xs:=by
 refine ⟨h.1,?_⟩
 rcases h.2 with h0 | ⟨g,cap,cur,he,hbg,hg,hc⟩
 ·exact .inl h0
 ·refine .inr ⟨g,cap,cur,he,hbg,?_,hc⟩
  have hgb:g≠b:=by
   intro e1
   subst e1
   unfold Blk at hB
   rw [hB] at hg
   injection hg with hg
   injection hg with _ hg
   exact hne hg.symm
  exact (setRow_other W b g vs (fun e1=>hgb e1)).trans hg
theorem Rows3.far {W:World} {base b:Nat} {A:Option Addr} {m p:Nat} {B:Option Addr} {k q:Nat} {C:Option Addr} {n r:Nat} {o l f:List Int} (h:Rows3 base A m p B k q C n r o l f W) {cs:Array Value} (hB:Blk W b 100 cs) (vs:Array Value):Rows3 base A m p B k q C n r o l f (W.setRow b vs) :=
 ⟨own_far h.a hB (by decide) vs,own_far h.b hB (by decide) vs,own_far h.c hB (by decide) vs,h.ab⟩
inductive CndA where
 | any
 | is (v:Value)
 | own (base:Nat) (l:List Int)
 | row3 (base:Nat) (sg st:Int) (m k n:Nat) (o l f:List Int)
def CndA.p:CndA→World→Value→Prop
 | .any=>fun _ _=>True
 | .is v=>fun _ u=>u=v
 | .own base l=>fun W u=>∃ A m p,u=.slice A m p∧W.ownsRow base 3 1 (.slice A m p) m (iv .i64 l)
 | .row3 base sg st m k n o l f=>fun W u=>∃ A p B q C r,u=.agg #[.int .i64 sg,.int .i64 st,.slice A m p,.slice B k q,.slice C n r]∧Rows3 base A m p B k q C n r o l f W
theorem CndA.later (c:CndA) {W W' : World} {u:Value} (hb:Below W.heap.size W W') (h:c.p W u):c.p W' u:=by
 cases c with
 | any=>exact trivial
 | is v=>exact h
 | own=>obtain ⟨A,m,p,e1,ho⟩:=h; exact ⟨A,m,p,e1,own_later ho hb⟩
 | row3=>obtain ⟨A,p,B,q,C,r,e1,ho⟩:=h; exact ⟨A,p,B,q,C,r,e1,ho.later hb⟩
theorem CndA.far (c:CndA) {W:World} {u:Value} {b:Nat} {cs:Array Value} (hB:Blk W b 100 cs) (vs:Array Value) (h:c.p W u):c.p (W.setRow b vs) u:=by
 cases c with
 | any=>exact trivial
 | is v=>exact h
 | own=>obtain ⟨A,m,p,e1,ho⟩:=h; exact ⟨A,m,p,e1,own_far ho hB (by decide) vs⟩
 | row3=>obtain ⟨A,p,B,q,C,r,e1,ho⟩:=h; exact ⟨A,p,B,q,C,r,e1,ho.far hB vs⟩
theorem CndA.lift {cs:List CndA} {W W' : World} {j:Nat} {u:Value} (hc:∀ c:CndA,c.p W u→c.p W' u) (h:Free.V (cs.map CndA.p) j W u):Free.V (cs.map CndA.p) j W' u:=by
 unfold Free.V at *
 cases hi:cs[j]? with
 | none=>simp only [List.getD_eq_getElem?_getD,List.getElem?_map,hi]; exact trivial
 | some c =>
   simp only [List.getD_eq_getElem?_getD,List.getElem?_map,hi,Option.map_some,Option.getD_some] at h ⊢
   exact hc c h
theorem CndA.keep {cs:List CndA} {W W' : World} {j:Nat} {u:Value} (hb:Below W.heap.size W W') (h:Free.V (cs.map CndA.p) j W u):Free.V (cs.map CndA.p) j W' u:=CndA.lift (fun c=>c.later hb) h
theorem slot_ownl {xs:Array Value} {i base:Nat} {l:List Int} {W:World} (h:∃ A m p,xs.getD i undef=.slice A m p∧W.ownsRow base 3 1 (.slice A m p) m (iv .i64 l)) :
 ∃ A m p,xs[i]?.getD undef=.slice A m p∧W.ownsRow base 3 1 (.slice A m p) m (iv .i64 l):=by simpa using h
structure AwC (w:World) (bz base ia ix sa:Nat) (cs:Array Value) (sg st:Int) (m k n:Nat) (o l f:List Int) (listed:Array Bool) (a:Act) (W:World):Prop where
 b:Below w.heap.size w W
 kb:Blk W w.heap.size 100 cs
 z:Blk W bz 100 (csT 0 0 none 0 0 none 0 0 none 0 0)
 s:base≤W.heap.size
 lt:bz<base
 lw:w.heap.size<bz
 ord:listed.getD ix false=true→listed.getD ia false=true
 blk:listed.getD ia false=true→∃ b,a.tmps.getD sa undef=.pointer (some ⟨b,0,none⟩)∧base≤b∧(listed.getD ix false=false→Blk W b 100 (csT 0 0 none 0 0 none 0 0 none 0 0)) ∧
  (listed.getD ix false=true→∃ A p B q C r,Blk W b 100 (csT sg st A m p B k q C n r)∧Rows3 base A m p B k q C n r o l f W)
section
variable {w:World} {bz base ia ix sa m k n:Nat} {cs:Array Value} {sg st:Int} {o l f:List Int} {listed:Array Bool} {a:Act} {W W' : World}
theorem AwC.step (h:AwC w bz base ia ix sa cs sg st m k n o l f listed a W) (i d:Nat) (v:Value) (h1:i≠ia) (h2:i≠ix) (hd:d≠sa) (hb:Below W.heap.size W W'):AwC w bz base ia ix sa cs sg st m k n o l f (listed.setIfInBounds i true) (a.put (some d) v) W':=by
 have e1:(listed.setIfInBounds i true).getD ia false=listed.getD ia false:=getD_set_ne false h1
 have e2:(listed.setIfInBounds i true).getD ix false=listed.getD ix false:=getD_set_ne false h2
 refine ⟨Ge.trans h.b hb,h.kb.later hb,h.z.later hb,Nat.le_trans h.s hb.size,h.lt,h.lw,by rw [e1,e2]; exact h.ord,?_⟩
 rw [e1,e2]
 intro hl
 obtain ⟨b,q1,q2,q3,q4⟩:=h.blk hl
 refine ⟨b,(Free.slot_ne v hd).trans q1,q2,fun e=>(q3 e).later hb,fun e=>?_⟩
 obtain ⟨A,p,B,q,C,r,k1,k2⟩:=q4 e
 exact ⟨A,p,B,q,C,r,k1.later hb,k2.later hb⟩
theorem not_listed {i:Nat} (hi:i<listed.size) (h:listed.getD i true=false):listed.getD i false=false:=by
 simp only [Array.getD_eq_getD_getElem?] at h ⊢
 have:listed[i]? = some (listed[i]'hi):=Array.getElem?_eq_getElem hi
 rw [this] at h ⊢
 exact h
theorem AwC.alloc (h:AwC w bz base ia ix sa cs sg st m k n o l f listed a W) (hi:ia<listed.size) (hne:ia≠ix) (ha:sa<a.tmps.size) (hno:listed.getD ia true=false) :
 AwC w bz base ia ix sa cs sg st m k n o l f (listed.setIfInBounds ia true) (a.put (some sa) (.pointer (some ⟨W.heap.size,0,none⟩))) (W.alloc (.cells (csT 0 0 none 0 0 none 0 0 none 0 0) 100)):=by
 have e2:(listed.setIfInBounds ia true).getD ix false=listed.getD ix false:=getD_set_ne false hne
 have e1:(listed.setIfInBounds ia true).getD ia false=true:=by simp [hi]
 have f1:=not_listed hi hno
 have hb:=below1 W (.cells (csT 0 0 none 0 0 none 0 0 none 0 0) 100)
 refine ⟨Ge.trans h.b hb,h.kb.later hb,h.z.later hb,Nat.le_trans h.s hb.size,h.lt,h.lw,fun _=>e1,fun _=>⟨W.heap.size,?_,h.s,fun _=>Blk.new _ _ _,fun e=>?_⟩⟩
 ·unfold Act.put
  simp [ha]
 ·rw [e2] at e
  have:=h.ord e
  rw [f1] at this
  exact absurd this (by decide)
theorem AwC.store (h:AwC w bz base ia ix sa cs sg st m k n o l f listed a W) (hi:ix<listed.size) (hne:ia≠ix) {b:Nat} (hl:listed.getD ia false=true) (hs:a.tmps.getD sa undef=.pointer (some ⟨b,0,none⟩)) {A:Option Addr} {p:Nat} {B:Option Addr} {q:Nat} {C:Option Addr} {r:Nat}
 (hB:Blk W b 100 (csT 0 0 none 0 0 none 0 0 none 0 0)) (hbb:base≤b) (R:Rows3 base A m p B k q C n r o l f W) :
 AwC w bz base ia ix sa cs sg st m k n o l f (listed.setIfInBounds ix true) (a.put none undef) (W.setRow b (csT sg st A m p B k q C n r)):=by
 have e1:(listed.setIfInBounds ix true).getD ia false=listed.getD ia false:=getD_set_ne false (fun e=>hne e.symm)
 have e2:(listed.setIfInBounds ix true).getD ix false=true:=by simp [hi]
 have h1:=h.lt
 have h2:=h.lw
 refine ⟨below_row h.b (by omega) _,h.kb.far (by omega) _,h.z.far (by omega) _,by rw [row_size]; exact h.s,h.lt,h.lw,fun _=>by rw [e1]; exact hl,fun _=>⟨b,hs,hbb,fun e=>?_,fun _=>⟨A,p,B,q,C,r,hB.row _,R.far hB _⟩⟩⟩
 rw [e2] at e
 exact absurd e (by decide)
end
open Go.RowKit Go.Lib
set_option linter.unusedVariables false
theorem arrF32 {cs:Array Value} (h:cs.size=32):∃ y:Nat→Value,(∀ i,cs.getD i undef=y i)∧cs=#[y 0,y 1,y 2,y 3,y 4,y 5,y 6,y 7,y 8,y 9,y 10,y 11,y 12,y 13,y 14,y 15,y 16,y 17,y 18,y 19,y 20,y 21,y 22,y 23,y 24,y 25,y 26,y 27,y 28,y 29,y 30,y 31]:=by
 refine ⟨fun i=>cs.getD i undef,fun _=>rfl,?_⟩
 have e:cs=((List.range 32).map fun i=>cs.getD i undef).toArray:=by
  apply Array.ext
  ·simp [h]
  ·intro i h1 h2
   simp [h1]
 exact e.trans rfl
set_option maxRecDepth 100000 in
set_option maxHeartbeats 16000000 in
theorem rcount_any (sg st:Int) (A:Option Addr) (m p:Nat) (B:Option Addr) (k q:Nat) (C:Option Addr) (n r:Nat) (o l f:List Int) (w:World) (h:TIn w A m B k C n o l f) (hok:okP ⟨sg,st,o,l,f⟩) :
 Calls Tryz.prog 104 #[.agg #[.int .i64 sg,.int .i64 st,.slice A m p,.slice B k q,.slice C n r]] w (RefF (tabOf (countT ⟨sg,st,o,l,f⟩)) (errOf (countT ⟨sg,st,o,l,f⟩) 10) w):=by
 have hm:=(ok_full hok h).2.1
 have hk:=(ok_full hok h).2.2.1
 have hn:=(ok_full hok h).2.2.2.1
 have hm1:1≤m∧m≤1000:=by omega
 have hk1:1≤k∧k≤1000:=by omega
 have hn1:1≤n∧n≤1000:=by omega
 clear hm hk hn
 have hsl:k=l.length:=h.b.len
 have hlast:=hok.2.2.2.2.2.1 _ (last_mem (l:=l) (by omega))
 simp only at hlast
 have h2:=hok.2.1
 simp only at h2
 obtain ⟨gg,off,rfl,hbb,hc⟩:=last_cell h.b (by omega)
 obtain ⟨z,HZ⟩:∃ z,Hid (lastN l=z):=⟨_,Lib.hid rfl⟩
 rw [HZ.out] at hlast hc
 obtain ⟨i,Hi⟩:∃ i,Hid (k-1=i):=⟨_,Lib.hid rfl⟩
 rw [Hi.out] at hc
 have hik:i<k:=by have:=Hi.out; omega
 have hiki:(i:Int)<(k:Int):=by omega
 have w1:IntKind.i64.wrap ((k:Int)-1)=(i:Int):=by rw [IntWalk.i64_in _ (by omega)]; have:=Hi.out; omega
 have hv:=Tryz.zeroValue100
 have HT:=Lib.hid h
 have SL:=Lib.hid hsl
 have B0:Below w.heap.size w ((w.alloc (.cells #[.int .i64 sg,.int .i64 st,.slice A m p,.slice (some ⟨gg,off,none⟩) k q,.slice C n r] 100)).alloc (.cells #[.int .i64 0,.int .i64 0,.slice none 0 0,.slice none 0 0,.slice none 0 0] 100)):=Ge.trans (below1 _ _) (below1 _ _)
 have K0:Blk ((w.alloc (.cells #[.int .i64 sg,.int .i64 st,.slice A m p,.slice (some ⟨gg,off,none⟩) k q,.slice C n r] 100)).alloc (.cells #[.int .i64 0,.int .i64 0,.slice none 0 0,.slice none 0 0,.slice none 0 0] 100)) w.heap.size 100 (csT sg st A m p (some ⟨gg,off,none⟩) k q C n r):=(Blk.new w _ _).later (below1 _ _)
 have Z0:Blk ((w.alloc (.cells #[.int .i64 sg,.int .i64 st,.slice A m p,.slice (some ⟨gg,off,none⟩) k q,.slice C n r] 100)).alloc (.cells #[.int .i64 0,.int .i64 0,.slice none 0 0,.slice none 0 0,.slice none 0 0] 100)) (w.heap.size+1) 100 (csT 0 0 none 0 0 none 0 0 none 0 0):=Blk.at_ _ _ _ (by simp)
 have S0:w.heap.size+2≤((w.alloc (.cells #[.int .i64 sg,.int .i64 st,.slice A m p,.slice (some ⟨gg,off,none⟩) k q,.slice C n r] 100)).alloc (.cells #[.int .i64 0,.int .i64 0,.slice none 0 0,.slice none 0 0,.slice none 0 0] 100)).heap.size:=by simp
 clear h hsl
 go_enter Tryz.func104,Tryz.ntmps104
 go_wp2_with fail
 refine FreeC.wp_freeC (List.map CndA.p [.is (.agg #[.int .i64 sg,.int .i64 st,.slice A m p,.slice (some ⟨gg,off,none⟩) k q,.slice C n r]),
  .row3 (w.heap.size+2) sg st m k n o l f,
  .is (.pointer (some ⟨w.heap.size,3,none⟩)),
  .is (.slice (some ⟨gg,off,none⟩) k q),
  .is (.int .i64 (k:Nat)),
  .is (.int .i64 (i:Nat)),
  .any,
  .any,
  .is (.int .i64 (i:Nat))]) (AwC w (w.heap.size+1) (w.heap.size+2) 6 7 4 (csT sg st A m p (some ⟨gg,off,none⟩) k q C n r) sg st m k n o l f) (by kernel_rfl) (by kernel_rfl) ⟨Ge.trans B0 (below_drawn _),K0.later (below_drawn _),Z0.later (below_drawn _),S0,by omega,by omega,fun e=>by simp at e,fun e=>by simp at e⟩ ?_ ?_
 ·clear K0 Z0 B0 S0
  refine ⟨?_,?_,?_,?_,?_,?_,?_,?_,?_,trivial⟩
  ·intro listed A0 W hA hno hr K hK
   have e1:A0.tmps[1]?.getD undef=.pointer (some ⟨w.heap.size,0,none⟩):=slot_is ((hA.kept 1 (Free.not_dst (by kernel_rfl))).trans rfl)
   have c0:W.cell? ⟨w.heap.size,0,none⟩=some (.int .i64 sg):=hA.c.kb.cell 0
   have c1:W.cell? ⟨w.heap.size,1,none⟩=some (.int .i64 st):=hA.c.kb.cell 1
   have c2:W.cell? ⟨w.heap.size,2,none⟩=some (.slice A m p):=hA.c.kb.cell 2
   have c3:W.cell? ⟨w.heap.size,3,none⟩=some (.slice (some ⟨gg,off,none⟩) k q):=hA.c.kb.cell 3
   have c4:W.cell? ⟨w.heap.size,4,none⟩=some (.slice C n r):=hA.c.kb.cell 4
   simp [go_sem,e1,c0,c1,c2,c3,c4]
   exact hK _ _ (hA.c.step 0 6 _ (by omega) (by omega) (by omega) (Below.refl _ _)) rfl (fun j u _ _ hu=>CndA.keep (Below.refl _ _) hu)
  ·intro listed A0 W hA hno hr K hK
   have e6:A0.tmps[6]?.getD undef=.agg #[.int .i64 sg,.int .i64 st,.slice A m p,.slice (some ⟨gg,off,none⟩) k q,.slice C n r]:=slot_is (hA.val 0 _ rfl (hr ⟨0,.data⟩ (by simp) rfl))
   simp [go_sem,e6]
   refine (rown_any sg st A m p (some ⟨gg,off,none⟩) k q C n r o l f W (HT.out.later hA.c.b) hm1 hk1 hn1).mono ?_
   rintro e' w' ⟨A1,p1,B1,q1,C1,r1,rfl,R1,hb⟩
   exact hK _ _ (hA.c.step 1 7 _ (by omega) (by omega) (by omega) hb) ⟨A1,p1,B1,q1,C1,r1,rfl,R1.wide hA.c.s⟩ (fun j u _ _ hu=>CndA.keep hb hu)
  ·intro listed A0 W hA hno hr K hK
   have e1:A0.tmps[1]?.getD undef=.pointer (some ⟨w.heap.size,0,none⟩):=slot_is ((hA.kept 1 (Free.not_dst (by kernel_rfl))).trans rfl)
   simp [go_sem,e1]
   exact hK _ _ (hA.c.step 2 8 _ (by omega) (by omega) (by omega) (Below.refl _ _)) rfl (fun j u _ _ hu=>CndA.keep (Below.refl _ _) hu)
  ·intro listed A0 W hA hno hr K hK
   have e8:A0.tmps[8]?.getD undef=.pointer (some ⟨w.heap.size,3,none⟩):=slot_is (hA.val 2 _ rfl (hr ⟨2,.data⟩ (by simp) rfl))
   have c3:W.cell? ⟨w.heap.size,3,none⟩=some (.slice (some ⟨gg,off,none⟩) k q):=hA.c.kb.cell 3
   simp [go_sem,e8,c3]
   exact hK _ _ (hA.c.step 3 9 _ (by omega) (by omega) (by omega) (Below.refl _ _)) rfl (fun j u _ _ hu=>CndA.keep (Below.refl _ _) hu)
  ·intro listed A0 W hA hno hr K hK
   have e9:A0.tmps[9]?.getD undef=.slice (some ⟨gg,off,none⟩) k q:=slot_is (hA.val 3 _ rfl (hr ⟨3,.data⟩ (by simp) rfl))
   simp [go_sem,e9]
   exact hK _ _ (hA.c.step 4 10 _ (by omega) (by omega) (by omega) (Below.refl _ _)) rfl (fun j u _ _ hu=>CndA.keep (Below.refl _ _) hu)
  ·intro listed A0 W hA hno hr K hK
   have e10:A0.tmps[10]?.getD undef=.int .i64 (k:Nat):=slot_is (hA.val 4 _ rfl (hr ⟨4,.data⟩ (by simp) rfl))
   simp [go_sem,e10,w1]
   exact hK _ _ (hA.c.step 5 11 _ (by omega) (by omega) (by omega) (Below.refl _ _)) rfl (fun j u _ _ hu=>CndA.keep (Below.refl _ _) hu)
  ·intro listed A0 W hA hno hr K hK
   have hsz:=hA.size
   simp at hsz
   have hts:=hA.slots
   simp at hts
   simp [go_sem,hv]
   exact hK _ _ (hA.c.alloc (by omega) (by omega) (by omega) hno) trivial (fun j u _ _ hu=>CndA.keep (below1 _ _) hu)
  ·intro listed A0 W hA hno hr K hK
   obtain ⟨A1,p1,B1,q1,C1,r1,e7,R1⟩:=slot_row3 (hA.val 1 _ rfl (hr ⟨1,.data⟩ (by simp) rfl))
   have hsz:=hA.size
   simp at hsz
   have hla:=hr ⟨6,.data⟩ (by simp) rfl
   obtain ⟨b,hs4,hbb,hz4,_⟩:=hA.c.blk hla
   have hB:=hz4 (not_listed (by omega) hno)
   refine wp_store_row _ (.tmp 4) (.tmp 7) rfl b (csT sg st A1 m p1 B1 k q1 C1 n r1) hs4 (by simpa [Act.eval,csT] using e7) _ _ hB info_r rfl (csT_one _ _ _ _ _ _ _ _ _ _ _) ?_
   exact hK undef _ (hA.c.store (by omega) (by omega) hla hs4 hB hbb R1) trivial (fun j u _ _ hu=>CndA.lift (fun c=>c.far hB _) hu)
  ·intro listed A0 W hA hno hr K hK
   have e11:A0.tmps[11]?.getD undef=.int .i64 (i:Nat):=slot_is (hA.val 5 _ rfl (hr ⟨5,.data⟩ (by simp) rfl))
   simp [go_sem,e11]
   exact hK _ _ (hA.c.step 8 5 _ (by omega) (by omega) (by omega) (Below.refl _ _)) rfl (fun j u _ _ hu=>CndA.keep (Below.refl _ _) hu)
 ·intro A0 W hA
  clear K0 Z0 B0 S0
  obtain ⟨b4,s4,hb4,_,hw⟩:=hA.c.blk rfl
  obtain ⟨A1,p1,B1,q1,C1,r1,K4,R4⟩:=hw rfl
  have s1:A0.tmps.getD 1 undef=.pointer (some ⟨w.heap.size,0,none⟩):=(hA.kept 1 (Free.not_dst (by kernel_rfl))).trans rfl
  have s2:A0.tmps.getD 2 undef=.pointer (some ⟨w.heap.size+1,0,none⟩):=(hA.kept 2 (Free.not_dst (by kernel_rfl))).trans rfl
  have s5:A0.tmps.getD 5 undef=.int .i64 (i:Nat):=hA.val 8 _ rfl rfl
  have hsz:=hA.slots
  have hde:=hA.defers
  have BB:=hA.c.b
  have KB:=hA.c.kb
  have ZB:=hA.c.z
  have SB:=hA.c.s
  clear hA hw
  obtain ⟨tm,de⟩:=A0
  simp only at s4 s1 s2 s5 hsz hde
  obtain ⟨y,hy,ee⟩:=arrF32 hsz
  have t1:=(hy _).symm.trans s1
  have t2:=(hy _).symm.trans s2
  have t4:=(hy _).symm.trans s4
  have t5:=(hy _).symm.trans s5
  rw [t1,t2,t4,t5] at ee
  clear hy s1 s2 s4 s5 hsz t1 t2 t4 t5
  subst ee hde
  have hgW:gg<W.heap.size:=Nat.lt_of_lt_of_le hbb BB.size
  have hcW:W.cell? ⟨gg,off+i,none⟩=some (.int .i64 z):=((bcell BB).1 _ _ hbb).trans hc
  obtain ⟨g1,rfl,hg1,hg2⟩:=own_some R4.b (by omega)
  have I:Its W [(w.heap.size,100,csT sg st A m p (some ⟨gg,off,none⟩) k q C n r)] [] W:=(Its.nil (Below.refl _ _)).cons KB
  have hne:Nonempty (In (Its W [(w.heap.size,100,csT sg st A m p (some ⟨gg,off,none⟩) k q C n r)] [])):=⟨⟨_,I⟩⟩
  have f0:∀ j:In (Its W [(w.heap.size,100,csT sg st A m p (some ⟨gg,off,none⟩) k q C n r)] []),j.W.cell? ⟨w.heap.size,0,none⟩=some (.int .i64 sg):=fun j=>(j.h.at_ 0 rfl).cell 0
  have f1:∀ j:In (Its W [(w.heap.size,100,csT sg st A m p (some ⟨gg,off,none⟩) k q C n r)] []),j.W.cell? ⟨w.heap.size,1,none⟩=some (.int .i64 st):=fun j=>(j.h.at_ 0 rfl).cell 1
  have f2:∀ j:In (Its W [(w.heap.size,100,csT sg st A m p (some ⟨gg,off,none⟩) k q C n r)] []),j.W.cell? ⟨w.heap.size,2,none⟩=some (.slice A m p):=fun j=>(j.h.at_ 0 rfl).cell 2
  have f3:∀ j:In (Its W [(w.heap.size,100,csT sg st A m p (some ⟨gg,off,none⟩) k q C n r)] []),j.W.cell? ⟨w.heap.size,3,none⟩=some (.slice (some ⟨gg,off,none⟩) k q):=fun j=>(j.h.at_ 0 rfl).cell 3
  have f4:∀ j:In (Its W [(w.heap.size,100,csT sg st A m p (some ⟨gg,off,none⟩) k q C n r)] []),j.W.cell? ⟨w.heap.size,4,none⟩=some (.slice C n r):=fun j=>(j.h.at_ 0 rfl).cell 4
  have fe:∀ j:In (Its W [(w.heap.size,100,csT sg st A m p (some ⟨gg,off,none⟩) k q C n r)] []),j.W.cell? ⟨gg,off+i,none⟩=some (.int .i64 z):=fun j=>((bcell j.h.b).1 gg (off+i) hgW).trans hcW
  have II:=Lib.hid I
  have HB:=Lib.hid BB
  have HK:=Lib.hid K4
  have HR:=Lib.hid R4
  have HZ4:=Lib.hid ZB
  clear I hc hcW BB K4 R4 ZB KB HT
  by_cases hz:z=st
  ·have HC:Hid (countT ⟨sg,st,o,l,f⟩=none):=Lib.hid (by unfold countT; simp only; rw [HZ.out,if_pos hz])
   subst hz
   have hge:z≤z:=Int.le_refl _
   clear hlast h2
   go_wp2_with fail
   refine region_class (Its W [(w.heap.size,100,csT sg z A m p (some ⟨gg,off,none⟩) k q C n r)] []) (by kernel_rfl) (by kernel_rfl) II.out.drawn ?_
   repeat (go_big_quiet_step (fail))
   refine wpQuiet_nil ?_
   rintro _ ⟨j,rfl⟩
   have Z1:=Lib.hid (HZ4.out.later j.h.b)
   have B1':=Ge.trans HB.out j.h.b
   go_wp2_with (with_reducible refine store_r rfl (.tmp 2) (.tmp 20) rfl (w.heap.size+1) rfl rfl Z1.out ?_)
   exact bodyPost_ret (res_r2 (y:=.int .i64 10) rfl _ _ (w.heap.size+1) rfl rfl (Z1.out.row _)) rfl (by rw [HC.out]; exact zero_reff 10 w _ (below_row B1' (by omega) _))
  ·have HC:Hid (countT ⟨sg,st,o,l,f⟩=some ⟨sg,st,o,l.set i (z+1),f⟩):=Lib.hid (by
    unfold countT countedT; simp only; rw [HZ.out,if_neg hz,← SL.out,Hi.out])
   have hge:¬ st≤z:=by omega
   have HN:Hid (nth l i=z):=Lib.hid (by rw [← HZ.out]; unfold lastN; rw [← SL.out,Hi.out])
   have z0:0≤z∧z≤30:=by omega
   have w2:IntKind.i64.wrap (z+1)=z+1:=IntWalk.i64_in _ (by omega)
   clear hlast h2 hz
   go_wp2_with fail
   refine region_class (Its W [(w.heap.size,100,csT sg st A m p (some ⟨gg,off,none⟩) k q C n r)] []) (by kernel_rfl) (by kernel_rfl) II.out.drawn ?_
   repeat (go_big_quiet_step (fail))
   refine wpQuiet_nil ?_
   rintro _ ⟨j,rfl⟩
   have K4:=HK.out.later j.h.b
   have Z4:=HZ4.out.later j.h.b
   have B4:=Ge.trans HB.out j.h.b
   have R4:=HR.out.later j.h.b
   have hg4:g1<j.W.heap.size:=Nat.lt_of_lt_of_le hg2 j.h.b.size
   clear f0 f1 f2 f3 f4 fe hne II HB HK HR HZ4 hg2 hgW
   generalize j.W=W4 at *
   have ke:W4.cell? ⟨g1,i,none⟩=some (.int .i64 z):=by
    have:=R4.b.cellAt i (by omega)
    rw [iv_at .i64 (by rw [← SL.out]; exact hik),HN.out] at this
    exact this
   have kf:W4.frozen? ⟨g1,i,none⟩=false:=R4.b.frozenAt i
   have k3:W4.cell? ⟨b4,3,none⟩=some (.slice (some ⟨g1,0,none⟩) k q1):=K4.cell 3
   have hne4:b4≠g1:=by
    intro e
    subst e
    have h3:=K4.cell 2
    have h5:W4.heap[b4]? = some (.cells (csT sg st A1 m p1 (some ⟨b4,0,none⟩) k q1 C1 n r1) 100 (0,0)):=K4
    rcases R4.b.2 with ⟨e0,_⟩ | ⟨g',cap,cur,he,hbg,hg,hcc⟩
    ·injection e0 with e0; cases e0
    ·injection he with he
     injection he with he
     injection he with he
     subst he
     rw [h5] at hg
     injection hg with hg
     injection hg with _ hg
     exact absurd hg (by decide)
   have HK4:=Lib.hid K4
   have HZ5:=Lib.hid Z4
   have HB4:=Lib.hid B4
   have HR4:=Lib.hid R4
   clear K4 Z4 B4 R4
   go_wp2_with fail
   go_cut [] (fun wx=>(W4.drew).setCell ⟨g1,i,none⟩ (.int .i64 (z+1))=wx)
   case first =>
    go_region
    all_goals
     go_wp2_with fail
     go_meet
     rfl
   case rest =>
   subst hcut
   have b5:=below_drawn W4
   have R5:=(HR4.out.later b5).put i (z+1)
   have K5:=blk_far (i:=i) (u:=.int .i64 (z+1)) (HK4.out.later b5) hne4
   have Z5:=blk_far (i:=i) (u:=.int .i64 (z+1)) (HZ5.out.later b5) (show w.heap.size+1≠g1 by omega)
   have B5:Below w.heap.size w ((W4.drew).setCell ⟨g1,i,none⟩ (.int .i64 (z+1))):=Below.setCell (p:=⟨g1,i,none⟩) (Ge.trans HB4.out b5) (by show w.heap.size≤g1; omega) _
   generalize (W4.drew).setCell ⟨g1,i,none⟩ (.int .i64 (z+1))=W6 at *
   have HK6:=Lib.hid K5
   have HZ6:=Lib.hid Z5
   clear K5 Z5 HR4 HK4 HZ5 HB4 k3 ke kf b5
   go_wp2_with (first
    | (with_reducible refine load_r rfl (.tmp 4) rfl b4 rfl HK6.out ?_)
    | (with_reducible refine store_r rfl (.tmp 2) (.tmp 31) rfl (w.heap.size+1) rfl rfl HZ6.out ?_))
   have R7:=R5.row (b:=w.heap.size+1) (cs:=csT sg st A1 m p1 (some ⟨g1,0,none⟩) k q1 C1 n r1) (by omega)
   exact bodyPost_ret (res_r2 (y:=.int .i64 0) rfl _ _ (w.heap.size+1) rfl rfl (HZ6.out.row _)) rfl (by rw [HC.out]; exact ⟨A1,m,p1,some ⟨g1,0,none⟩,k,q1,C1,n,r1,rfl,R7.tin,(R7.wide (by omega)).fresh,below_row B5 (by omega) _⟩)
open Go.RowKit Go.Lib
set_option linter.unusedVariables false
theorem own_not {W:World} {base b n:Nat} {e T:TypeId} {v:Value} {xs:List Value} {cs:Array Value} (h:W.ownsRow base e 1 v n xs) (hB:Blk W b T cs) (hne:e≠T):v.ownBlock≠some b:=by
 intro hq
 rcases h.2 with ⟨rfl,_⟩ | ⟨g,cap,cur,rfl,_,hg,_⟩
 ·cases hq
 ·injection hq with hq
  simp only at hq
  subst hq
  unfold Blk at hB
  rw [hB] at hg
  injection hg with hg
  injection hg with _ hg
  exact hne hg.symm
structure Own4 (base bc:Nat) (sg st:Int) (A:Option Addr) (m p:Nat) (B:Option Addr) (k q:Nat) (C:Option Addr) (n r:Nat) (o l f:List Int) (W:World):Prop where
 z:Blk W bc 100 (csT sg st A m p B k q C n r)
 lt:base≤bc
 s:Rows3 base A m p B k q C n r o l f W
 sz:base≤W.heap.size
theorem Own4.later {base bc:Nat} {sg st:Int} {A:Option Addr} {m p:Nat} {B:Option Addr} {k q:Nat} {C:Option Addr} {n r:Nat} {o l f:List Int} {W W' : World} (h:Own4 base bc sg st A m p B k q C n r o l f W) (hb:Below W.heap.size W W'):Own4 base bc sg st A m p B k q C n r o l f W':=⟨h.z.later hb,h.lt,h.s.later hb,Nat.le_trans h.sz hb.size⟩
theorem Own4.push_a {base bc:Nat} {sg st:Int} {A:Option Addr} {m p:Nat} {B:Option Addr} {k q:Nat} {C:Option Addr} {n r:Nat} {o l f:List Int} {W:World} {nb:Nat} {x:Int} (h:Own4 base bc sg st A m p B k q C n r o l f W) (hc:W.cell? ⟨nb,0,none⟩=some (.int .i64 x)) (hm:m<1000) :
 ∃ g p' W5,(∀ ty,(Builtin.append_ #[51,51] ty #[.slice A m p,.slice (some ⟨nb,0,none⟩) 1 1]).run Tryz.prog W=.ok (.slice (some ⟨g,0,none⟩) (m+1) p') W5) ∧
   W5.cell? ⟨bc,2,none⟩=some (.slice A m p)∧W5.frozen? ⟨bc,2,none⟩=false∧Own4 base bc sg st (some ⟨g,0,none⟩) (m+1) p' B k q C n r (o++[x]) l f (W5.setCell ⟨bc,2,none⟩ (.slice (some ⟨g,0,none⟩) (m+1) p')) ∧
   (∀ w0,Below w0.heap.size w0 W→w0.heap.size≤base→Below w0.heap.size w0 (W5.setCell ⟨bc,2,none⟩ (.slice (some ⟨g,0,none⟩) (m+1) p')))∧(∀ b t cs,Blk W b t cs→b<base→b≠bc→Blk (W5.setCell ⟨bc,2,none⟩ (.slice (some ⟨g,0,none⟩) (m+1) p')) b t cs):=by
 obtain ⟨g,p',W5,hrun,own5,g5,hat,hlt⟩:=push_run (T:=51) Tryz.underlying51 infoI rfl h.s.a hm hc h.sz
 have hrow:∀ j,ob A=some j→base≤j:=fun j hj=>(h.s.a.lt j (by rw [ob_eq]; exact hj)).1
 have k5:=blk_grown h.z g5 (fun e=>own_not h.s.a h.z (by decide) (by rw [ob_eq]; exact e.symm))
 have gs:=grown_set W5 bc 2 (.slice (some ⟨g,0,none⟩) (m+1) p')
 have keep:∀ {e' : TypeId} {B' : Option Addr} {n' q' : Nat} {xs:List Value},e'≠100→W5.ownsRow base e' 1 (.slice B' n' q') n' xs→(W5.setCell ⟨bc,2,none⟩ (.slice (some ⟨g,0,none⟩) (m+1) p')).ownsRow base e' 1 (.slice B' n' q') n' xs:=fun {e'} {B'} {n'} {q'} {xs} he ho=>ho.kept gs (by
  cases hq:(Value.slice B' n' q').ownBlock with
  | none=>exact .inl rfl
  | some j=>exact .inr (fun e=>own_not ho k5 he (hq.trans e)))
 refine ⟨g,p',W5,hrun,k5.cell 2,k5.frozen 2,⟨?_,h.lt,⟨?_,?_,?_,?_⟩,?_⟩,fun w0 hb hle=>?_,fun b t cs hB hb hne=>?_⟩
 ·exact k5.set_ 2 _
 ·exact keep (by decide) own5
 ·exact keep (by decide) (own_kept (p:=0) h.s.b g5 h.s.ab)
 ·exact keep (by decide) (own_kept (p:=0) h.s.c g5 (fun j hj=>by have:=own_ne h.s.a h.s.c (by decide) j; rw [ob_eq,ob_eq] at this; exact this hj))
 ·intro j hj hh
  injection hj with hj
  have hj:g=j:=hj
  rcases hat with e|e
  ·exact h.s.ab j (by rw [e,hj]) hh
  ·have:=(h.s.b.lt j (by rw [ob_eq]; exact hh)).2
   omega
 ·have:=g5.size; have:=h.sz; simp; omega
 ·refine Below.setCell (p:=⟨bc,2,none⟩) ?_ (Nat.le_trans hle h.lt) _
  exact hb.grown g5 hb.size (fun j hj=>by have:=hrow j hj; have:=h.lt; omega)
 ·exact blk_grown (blk_grown hB g5 (fun e=>by have:=hrow b e.symm; omega)) gs (fun e=>by injection e with e; exact hne e)
theorem Own4.push_b {base bc:Nat} {sg st:Int} {A:Option Addr} {m p:Nat} {B:Option Addr} {k q:Nat} {C:Option Addr} {n r:Nat} {o l f:List Int} {W:World} {nb:Nat} {x:Int} (h:Own4 base bc sg st A m p B k q C n r o l f W) (hc:W.cell? ⟨nb,0,none⟩=some (.int .i64 x)) (hm:k<1000) :
 ∃ g p' W5,(∀ ty,(Builtin.append_ #[51,51] ty #[.slice B k q,.slice (some ⟨nb,0,none⟩) 1 1]).run Tryz.prog W=.ok (.slice (some ⟨g,0,none⟩) (k+1) p') W5) ∧
   W5.cell? ⟨bc,3,none⟩=some (.slice B k q)∧W5.frozen? ⟨bc,3,none⟩=false∧Own4 base bc sg st A m p (some ⟨g,0,none⟩) (k+1) p' C n r o (l++[x]) f (W5.setCell ⟨bc,3,none⟩ (.slice (some ⟨g,0,none⟩) (k+1) p')) ∧
   (∀ w0,Below w0.heap.size w0 W→w0.heap.size≤base→Below w0.heap.size w0 (W5.setCell ⟨bc,3,none⟩ (.slice (some ⟨g,0,none⟩) (k+1) p')))∧(∀ b t cs,Blk W b t cs→b<base→b≠bc→Blk (W5.setCell ⟨bc,3,none⟩ (.slice (some ⟨g,0,none⟩) (k+1) p')) b t cs):=by
 obtain ⟨g,p',W5,hrun,own5,g5,hat,hlt⟩:=push_run (T:=51) Tryz.underlying51 infoI rfl h.s.b hm hc h.sz
 have hrow:∀ j,ob B=some j→base≤j:=fun j hj=>(h.s.b.lt j (by rw [ob_eq]; exact hj)).1
 have k5:=blk_grown h.z g5 (fun e=>own_not h.s.b h.z (by decide) (by rw [ob_eq]; exact e.symm))
 have gs:=grown_set W5 bc 3 (.slice (some ⟨g,0,none⟩) (k+1) p')
 have keep:∀ {e' : TypeId} {B' : Option Addr} {n' q' : Nat} {xs:List Value},e'≠100→W5.ownsRow base e' 1 (.slice B' n' q') n' xs→(W5.setCell ⟨bc,3,none⟩ (.slice (some ⟨g,0,none⟩) (k+1) p')).ownsRow base e' 1 (.slice B' n' q') n' xs:=fun {e'} {B'} {n'} {q'} {xs} he ho=>ho.kept gs (by
  cases hq:(Value.slice B' n' q').ownBlock with
  | none=>exact .inl rfl
  | some j=>exact .inr (fun e=>own_not ho k5 he (hq.trans e)))
 refine ⟨g,p',W5,hrun,k5.cell 3,k5.frozen 3,⟨?_,h.lt,⟨?_,?_,?_,?_⟩,?_⟩,fun w0 hb hle=>?_,fun b t cs hB hb hne=>?_⟩
 ·exact k5.set_ 3 _
 ·exact keep (by decide) (own_kept (p:=0) h.s.a g5 (fun j hj hh=>h.s.ab j hh hj))
 ·exact keep (by decide) own5
 ·exact keep (by decide) (own_kept (p:=0) h.s.c g5 (fun j hj=>by have:=own_ne h.s.b h.s.c (by decide) j; rw [ob_eq,ob_eq] at this; exact this hj))
 ·intro j hj hh
  injection hh with hh
  have hh:g=j:=hh
  rcases hat with e|e
  ·exact h.s.ab j hj (by rw [e,hh])
  ·have:=(h.s.a.lt j (by rw [ob_eq]; exact hj)).2
   omega
 ·have:=g5.size; have:=h.sz; simp; omega
 ·refine Below.setCell (p:=⟨bc,3,none⟩) ?_ (Nat.le_trans hle h.lt) _
  exact hb.grown g5 hb.size (fun j hj=>by have:=hrow j hj; have:=h.lt; omega)
 ·exact blk_grown (blk_grown hB g5 (fun e=>by have:=hrow b e.symm; omega)) gs (fun e=>by injection e with e; exact hne e)
theorem Own4.push_c {base bc:Nat} {sg st:Int} {A:Option Addr} {m p:Nat} {B:Option Addr} {k q:Nat} {C:Option Addr} {n r:Nat} {o l f:List Int} {W:World} {nb:Nat} {x:Int} (h:Own4 base bc sg st A m p B k q C n r o l f W) (hc:W.cell? ⟨nb,0,none⟩=some (.int .u64 x)) (hm:n<1000) :
 ∃ g p' W5,(∀ ty,(Builtin.append_ #[62,62] ty #[.slice C n r,.slice (some ⟨nb,0,none⟩) 1 1]).run Tryz.prog W=.ok (.slice (some ⟨g,0,none⟩) (n+1) p') W5) ∧
   W5.cell? ⟨bc,4,none⟩=some (.slice C n r)∧W5.frozen? ⟨bc,4,none⟩=false∧Own4 base bc sg st A m p B k q (some ⟨g,0,none⟩) (n+1) p' o l (f++[x]) (W5.setCell ⟨bc,4,none⟩ (.slice (some ⟨g,0,none⟩) (n+1) p')) ∧
   (∀ w0,Below w0.heap.size w0 W→w0.heap.size≤base→Below w0.heap.size w0 (W5.setCell ⟨bc,4,none⟩ (.slice (some ⟨g,0,none⟩) (n+1) p')))∧(∀ b t cs,Blk W b t cs→b<base→b≠bc→Blk (W5.setCell ⟨bc,4,none⟩ (.slice (some ⟨g,0,none⟩) (n+1) p')) b t cs):=by
 obtain ⟨g,p',W5,hrun,own5,g5,hat,hlt⟩:=push_run (T:=62) Tryz.underlying62 infoU rfl h.s.c hm hc h.sz
 have hrow:∀ j,ob C=some j→base≤j:=fun j hj=>(h.s.c.lt j (by rw [ob_eq]; exact hj)).1
 have k5:=blk_grown h.z g5 (fun e=>own_not h.s.c h.z (by decide) (by rw [ob_eq]; exact e.symm))
 have gs:=grown_set W5 bc 4 (.slice (some ⟨g,0,none⟩) (n+1) p')
 have keep:∀ {e' : TypeId} {B' : Option Addr} {n' q' : Nat} {xs:List Value},e'≠100→W5.ownsRow base e' 1 (.slice B' n' q') n' xs→(W5.setCell ⟨bc,4,none⟩ (.slice (some ⟨g,0,none⟩) (n+1) p')).ownsRow base e' 1 (.slice B' n' q') n' xs:=fun {e'} {B'} {n'} {q'} {xs} he ho=>ho.kept gs (by
  cases hq:(Value.slice B' n' q').ownBlock with
  | none=>exact .inl rfl
  | some j=>exact .inr (fun e=>own_not ho k5 he (hq.trans e)))
 refine ⟨g,p',W5,hrun,k5.cell 4,k5.frozen 4,⟨?_,h.lt,⟨?_,?_,?_,?_⟩,?_⟩,fun w0 hb hle=>?_,fun b t cs hB hb hne=>?_⟩
 ·exact k5.set_ 4 _
 ·exact keep (by decide) (own_kept (p:=0) h.s.a g5 (fun j hj=>by have:=own_ne h.s.c h.s.a (by decide) j; rw [ob_eq,ob_eq] at this; exact this hj))
 ·exact keep (by decide) (own_kept (p:=0) h.s.b g5 (fun j hj=>by have:=own_ne h.s.c h.s.b (by decide) j; rw [ob_eq,ob_eq] at this; exact this hj))
 ·exact keep (by decide) own5
 ·exact h.s.ab
 ·have:=g5.size; have:=h.sz; simp; omega
 ·refine Below.setCell (p:=⟨bc,4,none⟩) ?_ (Nat.le_trans hle h.lt) _
  exact hb.grown g5 hb.size (fun j hj=>by have:=hrow j hj; have:=h.lt; omega)
 ·exact blk_grown (blk_grown hB g5 (fun e=>by have:=hrow b e.symm; omega)) gs (fun e=>by injection e with e; exact hne e)
theorem arrF36 {cs:Array Value} (h:cs.size=36):∃ y:Nat→Value,(∀ i,cs.getD i undef=y i)∧cs=#[y 0,y 1,y 2,y 3,y 4,y 5,y 6,y 7,y 8,y 9,y 10,y 11,y 12,y 13,y 14,y 15,y 16,y 17,y 18,y 19,y 20,y 21,y 22,y 23,y 24,y 25,y 26,y 27,y 28,y 29,y 30,y 31,y 32,y 33,y 34,y 35]:=by
 refine ⟨fun i=>cs.getD i undef,fun _=>rfl,?_⟩
 have e:cs=((List.range 36).map fun i=>cs.getD i undef).toArray:=by
  apply Array.ext
  ·simp [h]
  ·intro i h1 h2
   simp [h1]
 exact e.trans rfl
set_option maxRecDepth 100000 in
set_option maxHeartbeats 16000000 in
theorem rroll_any (sg st:Int) (A:Option Addr) (m p:Nat) (B:Option Addr) (k q:Nat) (C:Option Addr) (n r:Nat) (o l f:List Int) (first:Int) (w:World) (h:TIn w A m B k C n o l f) (hok:okP ⟨sg,st,o,l,f⟩) :
 Calls Tryz.prog 99 #[.agg #[.int .i64 sg,.int .i64 st,.slice A m p,.slice B k q,.slice C n r],.int .u64 first] w (RefF (tabOf (rollT ⟨sg,st,o,l,f⟩ first)) (errOf (rollT ⟨sg,st,o,l,f⟩ first) 10) w):=by
 have hm:=(ok_full hok h).2.1
 have hk:=(ok_full hok h).2.2.1
 have hn:=(ok_full hok h).2.2.2.1
 have hml:=(ok_full hok h).2.2.2.2.1
 have hm1:1≤m∧m≤1000:=by omega
 have hk1:1≤k∧k≤1000:=by omega
 have hn1:1≤n∧n≤1000:=by omega
 have hm2:m<1000:=by omega
 have hk2:k<1000:=by omega
 have hn2:n<1000:=by omega
 have h1:=hok.1
 simp only at h1
 clear hm hk hn
 have hv:=Tryz.zeroValue100
 have HT:=Lib.hid h
 have B0:Below w.heap.size w ((w.alloc (.cells #[.int .i64 sg,.int .i64 st,.slice A m p,.slice B k q,.slice C n r] 100)).alloc (.cells #[.int .i64 0,.int .i64 0,.slice none 0 0,.slice none 0 0,.slice none 0 0] 100)):=Ge.trans (below1 _ _) (below1 _ _)
 have K0:Blk ((w.alloc (.cells #[.int .i64 sg,.int .i64 st,.slice A m p,.slice B k q,.slice C n r] 100)).alloc (.cells #[.int .i64 0,.int .i64 0,.slice none 0 0,.slice none 0 0,.slice none 0 0] 100)) w.heap.size 100 (csT sg st A m p B k q C n r):=(Blk.new w _ _).later (below1 _ _)
 have Z0:Blk ((w.alloc (.cells #[.int .i64 sg,.int .i64 st,.slice A m p,.slice B k q,.slice C n r] 100)).alloc (.cells #[.int .i64 0,.int .i64 0,.slice none 0 0,.slice none 0 0,.slice none 0 0] 100)) (w.heap.size+1) 100 (csT 0 0 none 0 0 none 0 0 none 0 0):=Blk.at_ _ _ _ (by simp)
 have S0:w.heap.size+2≤((w.alloc (.cells #[.int .i64 sg,.int .i64 st,.slice A m p,.slice B k q,.slice C n r] 100)).alloc (.cells #[.int .i64 0,.int .i64 0,.slice none 0 0,.slice none 0 0,.slice none 0 0] 100)).heap.size:=by simp
 clear h
 go_enter Tryz.func99,Tryz.ntmps99
 go_wp2_with fail
 refine FreeC.wp_freeC (List.map CndA.p [.is (.agg #[.int .i64 sg,.int .i64 st,.slice A m p,.slice B k q,.slice C n r]),
  .own (w.heap.size+2) (freeT ⟨sg,st,o,l,f⟩),
  .is (.agg #[.int .i64 sg,.int .i64 st,.slice A m p,.slice B k q,.slice C n r]),
  .row3 (w.heap.size+2) sg st m k n o l f,
  .any,
  .own (w.heap.size+2) (freeT ⟨sg,st,o,l,f⟩),
  .any]) (AwC w (w.heap.size+1) (w.heap.size+2) 4 6 7 (csT sg st A m p B k q C n r) sg st m k n o l f) (by kernel_rfl) (by kernel_rfl) ⟨Ge.trans B0 (below_drawn _),K0.later (below_drawn _),Z0.later (below_drawn _),S0,by omega,by omega,fun e=>by simp at e,fun e=>by simp at e⟩ ?_ ?_
 ·clear K0 Z0 B0 S0
  refine ⟨?_,?_,?_,?_,?_,?_,?_,trivial⟩
  ·intro listed A0 W hA hno hr K hK
   have e2:A0.tmps[2]?.getD undef=.pointer (some ⟨w.heap.size,0,none⟩):=slot_is ((hA.kept 2 (Free.not_dst (by kernel_rfl))).trans rfl)
   have c0:W.cell? ⟨w.heap.size,0,none⟩=some (.int .i64 sg):=hA.c.kb.cell 0
   have c1:W.cell? ⟨w.heap.size,1,none⟩=some (.int .i64 st):=hA.c.kb.cell 1
   have c2:W.cell? ⟨w.heap.size,2,none⟩=some (.slice A m p):=hA.c.kb.cell 2
   have c3:W.cell? ⟨w.heap.size,3,none⟩=some (.slice B k q):=hA.c.kb.cell 3
   have c4:W.cell? ⟨w.heap.size,4,none⟩=some (.slice C n r):=hA.c.kb.cell 4
   simp [go_sem,e2,c0,c1,c2,c3,c4]
   exact hK _ _ (hA.c.step 0 8 _ (by omega) (by omega) (by omega) (Below.refl _ _)) rfl (fun j u _ _ hu=>CndA.keep (Below.refl _ _) hu)
  ·intro listed A0 W hA hno hr K hK
   have e8:A0.tmps[8]?.getD undef=.agg #[.int .i64 sg,.int .i64 st,.slice A m p,.slice B k q,.slice C n r]:=slot_is (hA.val 0 _ rfl (hr ⟨0,.data⟩ (by simp) rfl))
   simp [go_sem,e8]
   refine (rfree_own sg st A m p B k q C n r o l f W (HT.out.later hA.c.b) hml ⟨by omega,h1.2⟩).mono ?_
   rintro e' w' ⟨A9,m9,p9,rfl,o9,hb⟩
   exact hK _ _ (hA.c.step 1 9 _ (by omega) (by omega) (by omega) hb) ⟨A9,m9,p9,rfl,own_base o9 hA.c.s⟩ (fun j u _ _ hu=>CndA.keep hb hu)
  ·intro listed A0 W hA hno hr K hK
   have e2:A0.tmps[2]?.getD undef=.pointer (some ⟨w.heap.size,0,none⟩):=slot_is ((hA.kept 2 (Free.not_dst (by kernel_rfl))).trans rfl)
   have c0:W.cell? ⟨w.heap.size,0,none⟩=some (.int .i64 sg):=hA.c.kb.cell 0
   have c1:W.cell? ⟨w.heap.size,1,none⟩=some (.int .i64 st):=hA.c.kb.cell 1
   have c2:W.cell? ⟨w.heap.size,2,none⟩=some (.slice A m p):=hA.c.kb.cell 2
   have c3:W.cell? ⟨w.heap.size,3,none⟩=some (.slice B k q):=hA.c.kb.cell 3
   have c4:W.cell? ⟨w.heap.size,4,none⟩=some (.slice C n r):=hA.c.kb.cell 4
   simp [go_sem,e2,c0,c1,c2,c3,c4]
   exact hK _ _ (hA.c.step 2 10 _ (by omega) (by omega) (by omega) (Below.refl _ _)) rfl (fun j u _ _ hu=>CndA.keep (Below.refl _ _) hu)
  ·intro listed A0 W hA hno hr K hK
   have e10:A0.tmps[10]?.getD undef=.agg #[.int .i64 sg,.int .i64 st,.slice A m p,.slice B k q,.slice C n r]:=slot_is (hA.val 2 _ rfl (hr ⟨2,.data⟩ (by simp) rfl))
   simp [go_sem,e10]
   refine (rown_any sg st A m p B k q C n r o l f W (HT.out.later hA.c.b) hm1 hk1 hn1).mono ?_
   rintro e' w' ⟨A1,p1,B1,q1,C1,r1,rfl,R1,hb⟩
   exact hK _ _ (hA.c.step 3 11 _ (by omega) (by omega) (by omega) hb) ⟨A1,p1,B1,q1,C1,r1,rfl,R1.wide hA.c.s⟩ (fun j u _ _ hu=>CndA.keep hb hu)
  ·intro listed A0 W hA hno hr K hK
   have hsz:=hA.size
   simp at hsz
   have hts:=hA.slots
   simp at hts
   simp [go_sem,hv]
   exact hK _ _ (hA.c.alloc (by omega) (by omega) (by omega) hno) trivial (fun j u _ _ hu=>CndA.keep (below1 _ _) hu)
  ·intro listed A0 W hA hno hr K hK
   obtain ⟨A9,m9,p9,e9,o9⟩:=slot_ownl (hA.val 1 _ rfl (hr ⟨1,.data⟩ (by simp) rfl))
   simp [go_sem,e9]
   exact hK _ _ (hA.c.step 5 6 _ (by omega) (by omega) (by omega) (Below.refl _ _)) ⟨A9,m9,p9,rfl,o9⟩ (fun j u _ _ hu=>CndA.keep (Below.refl _ _) hu)
  ·intro listed A0 W hA hno hr K hK
   obtain ⟨A1,p1,B1,q1,C1,r1,e11,R1⟩:=slot_row3 (hA.val 3 _ rfl (hr ⟨3,.data⟩ (by simp) rfl))
   have hsz:=hA.size
   simp at hsz
   have hla:=hr ⟨4,.data⟩ (by simp) rfl
   obtain ⟨b,hs4,hbb,hz4,_⟩:=hA.c.blk hla
   have hB:=hz4 (not_listed (by omega) hno)
   refine wp_store_row _ (.tmp 7) (.tmp 11) rfl b (csT sg st A1 m p1 B1 k q1 C1 n r1) hs4 (by simpa [Act.eval,csT] using e11) _ _ hB info_r rfl (csT_one _ _ _ _ _ _ _ _ _ _ _) ?_
   exact hK undef _ (hA.c.store (by omega) (by omega) hla hs4 hB hbb R1) trivial (fun j u _ _ hu=>CndA.lift (fun c=>c.far hB _) hu)
 ·intro A0 W hA
  clear K0 Z0 B0 S0
  obtain ⟨b4,s7,hb4,_,hw⟩:=hA.c.blk rfl
  obtain ⟨A1,p1,B1,q1,C1,r1,K4,R4⟩:=hw rfl
  obtain ⟨A9,m9,p9,s6,o9⟩:∃ A9 m9 p9,A0.tmps.getD 6 undef=.slice A9 m9 p9∧W.ownsRow (w.heap.size+2) 3 1 (.slice A9 m9 p9) m9 (iv .i64 (freeT ⟨sg,st,o,l,f⟩)):=hA.val 5 _ rfl rfl
  have s1:A0.tmps.getD 1 undef=.int .u64 first:=(hA.kept 1 (Free.not_dst (by kernel_rfl))).trans rfl
  have s4:A0.tmps.getD 4 undef=.pointer (some ⟨w.heap.size+1,0,none⟩):=(hA.kept 4 (Free.not_dst (by kernel_rfl))).trans rfl
  have hsz:=hA.slots
  have hde:=hA.defers
  have BB:=hA.c.b
  have ZB:=hA.c.z
  have SB:=hA.c.s
  clear hA hw
  obtain ⟨tm,de⟩:=A0
  simp only at s4 s1 s6 s7 hsz hde
  obtain ⟨y,hy,ee⟩:=arrF36 hsz
  have t1:=(hy _).symm.trans s1
  have t4:=(hy _).symm.trans s4
  have t6:=(hy _).symm.trans s6
  have t7:=(hy _).symm.trans s7
  rw [t1,t4,t6,t7] at ee
  clear hy s1 s4 s6 s7 hsz t1 t4 t6 t7
  subst ee hde
  have S9:=own_sl o9
  have l9:=S9.len
  cases hx:freeT ⟨sg,st,o,l,f⟩ with
  | nil =>
    have HC:Hid (rollT ⟨sg,st,o,l,f⟩ first=none):=Lib.hid (by unfold rollT; rw [hx])
    rw [hx] at l9
    simp only [List.length_nil] at l9
    subst l9
    have Z1:=Lib.hid ZB
    go_wp2_with (with_reducible refine store_r rfl (.tmp 4) (.tmp 15) rfl (w.heap.size+1) rfl rfl Z1.out ?_)
    exact bodyPost_ret (res_r2 (y:=.int .i64 10) rfl _ _ (w.heap.size+1) rfl rfl (Z1.out.row _)) rfl (by rw [HC.out]; exact zero_reff 10 w _ (below_row BB (by omega) _))
  | cons s rest =>
    have HC:Hid (rollT ⟨sg,st,o,l,f⟩ first=some ⟨sg,st,o++[s],l++[0],f++[first]⟩):=Lib.hid (by unfold rollT; rw [hx]; rfl)
    rw [hx] at l9 S9
    simp only [List.length_cons] at l9
    obtain ⟨g9,off9,rfl,hg9,hc9⟩:=S9.cells (by omega)
    have c9:W.cell? ⟨g9,off9+0,none⟩=some (.int .i64 s):=hc9 0 (by omega)
    rw [Nat.add_zero] at c9
    have hq:((m9:Int) == 0)=false:=by simp; omega
    have hqi:(0:Int)<(m9:Int):=by omega
    have hqn:0<m9:=by omega
    have O2:Own4 (w.heap.size+2) b4 sg st A1 m p1 B1 k q1 C1 n r1 o l f W:=⟨K4,hb4,R4,SB⟩
    have b2:Below W.heap.size W (W.alloc (.cells #[.int .i64 s] 3)).drew:=Ge.trans (below1 _ _) (below_drawn _)
    obtain ⟨gA,pA,Y2,run2,cA,fA,O4,bl2,kl2⟩:=(O2.later b2).push_a (nb:=W.heap.size) (x:=s) (((Blk.new W 3 #[.int .i64 s]).later (below_drawn _)).cell 0) hm2
    have k2:W.cell? ⟨b4,2,none⟩=some (.slice A1 m p1):=O2.z.cell 2
    have k2' : (W.alloc (.cells #[.int .i64 s] 3)).cell? ⟨b4,2,none⟩=some (.slice A1 m p1):=(O2.z.later (below1 _ _)).cell 2
    have Z4:=kl2 _ _ _ (ZB.later b2) (by omega) (by omega)
    have B4:=bl2 w (Ge.trans BB b2) (by omega)
    have HO4:=Lib.hid O4
    have HZ4:=Lib.hid Z4
    have HB4:=Lib.hid B4
    clear O4 Z4 B4 bl2 kl2 O2 b2 hc9 S9 o9 K4 R4 ZB BB SB hx l9 HT h1
    go_upto_region 4 with fail
    go_region_law (refine step_append_run rfl (.tmp 17) (.tmp 21) 51 rfl _ _ rfl rfl run2 ?_)
    all_goals
     go_upto_region 5 with fail
     generalize Y2.setCell ⟨b4,2,none⟩ (.slice (some ⟨gA,0,none⟩) (m+1) pA)=W4 at *
     clear run2 cA fA k2 k2' c9
     have b4':=below1 W4 (.cells #[.int .i64 0] 3)
     obtain ⟨gB,pB,Y4,run4,c4,f4,O6,bl4,kl4⟩:=(HO4.out.later b4').push_b (nb:=W4.heap.size) (x:=0) ((Blk.new W4 3 #[.int .i64 0]).cell 0) hk2
     have k4:W4.cell? ⟨b4,3,none⟩=some (.slice B1 k q1):=HO4.out.z.cell 3
     have Z6:=kl4 _ _ _ (HZ4.out.later b4') (by omega) (by omega)
     have B6:=bl4 w (Ge.trans HB4.out b4') (by omega)
     have HR4:=Lib.hid run4
     clear run4 bl4 kl4 b4'
     go_upto_region 6 with (at_builtin; refine list_append_run rfl (.tmp 25) (.tmp 26) 51 rfl _ _ rfl rfl HR4.out ?_)
     clear c4 f4 k4 HR4 HO4 HZ4 HB4
     generalize Y4.setCell ⟨b4,3,none⟩ (.slice (some ⟨gB,0,none⟩) (k+1) pB)=W6 at *
     have b6:=below1 W6 (.cells #[.int .u64 first] 43)
     obtain ⟨gC,pC,Y6,run6,c6,f6,O8,bl6,kl6⟩:=(O6.later b6).push_c (nb:=W6.heap.size) (x:=first) ((Blk.new W6 43 #[.int .u64 first]).cell 0) hn2
     have k6:W6.cell? ⟨b4,4,none⟩=some (.slice C1 n r1):=O6.z.cell 4
     have Z8:=kl6 _ _ _ (Z6.later b6) (by omega) (by omega)
     have B8:=bl6 w (Ge.trans B6 b6) (by omega)
     have HR6:=Lib.hid run6
     clear run6 bl6 kl6 b6 O6 Z6 B6
     go_upto_region 7 with (at_builtin; refine list_append_run rfl (.tmp 30) (.tmp 32) 62 rfl _ _ rfl rfl HR6.out ?_)
     clear c6 f6 k6 HR6
     generalize Y6.setCell ⟨b4,4,none⟩ (.slice (some ⟨gC,0,none⟩) (n+1) pC)=W8 at *
     have HK8:=Lib.hid O8.z
     have HZ8:=Lib.hid Z8
     go_wp2_with (first
      | (with_reducible refine load_r rfl (.tmp 7) rfl b4 rfl HK8.out ?_)
      | (with_reducible refine store_r rfl (.tmp 4) (.tmp 35) rfl (w.heap.size+1) rfl rfl HZ8.out ?_))
     have R9:=O8.s.row (b:=w.heap.size+1) (cs:=csT sg st (some ⟨gA,0,none⟩) (m+1) pA (some ⟨gB,0,none⟩) (k+1) pB (some ⟨gC,0,none⟩) (n+1) pC) (by omega)
     exact bodyPost_ret (res_r2 (y:=.int .i64 0) rfl _ _ (w.heap.size+1) rfl rfl (HZ8.out.row _)) rfl (by rw [HC.out]; exact ⟨_,_,_,_,_,_,_,_,_,rfl,R9.tin,(R9.wide (by omega)).fresh,below_row B8 (by omega) _⟩)
open Go.RowKit Go.Lib
set_option linter.unusedVariables false
def er (l:List Int) (i j:Nat):List Int:=(l.take j).eraseIdx i
theorem er_zero (l:List Int) (i:Nat):er l i 0=[]:=by simp [er]
theorem er_all (l:List Int) (i:Nat):er l i l.length=l.eraseIdx i:=by simp [er]
theorem er_skip {l:List Int} {i:Nat} (h:i<l.length):er l i (i+1)=er l i i:=by
 unfold er
 have e:(l.take i).length=i:=by rw [List.length_take]; omega
 rw [take_nth h,List.eraseIdx_append_of_length_le (by omega),e,Nat.sub_self,List.eraseIdx_of_length_le (l:=l.take i) (by omega)]
 simp
theorem er_push {l:List Int} {i j:Nat} (h:j<l.length) (hne:j≠i):er l i (j+1)=er l i j++[nth l j]:=by
 unfold er
 rw [take_nth h]
 rcases Nat.lt_or_gt_of_ne hne with hlt|hlt
 ·rw [List.eraseIdx_of_length_le (by simp; omega),List.eraseIdx_of_length_le (by rw [List.length_take]; omega)]
 ·rw [List.eraseIdx_append_of_lt_length (by rw [List.length_take]; omega)]
theorem er_len (l:List Int) (i j:Nat):(er l i j).length≤j:=by
 unfold er
 have:=List.length_eraseIdx_le (l.take j) i
 rw [List.length_take] at this
 omega
structure DrI (w:World) (b7:Nat) (sg st:Int) (A:Option Addr) (m p:Nat) (B:Option Addr) (k q:Nat) (C:Option Addr) (n r:Nat) (o l f:List Int) (i j:Nat) (sg1 st1:Int) (A1:Option Addr) (m1 p1:Nat) (B1:Option Addr) (k1 q1:Nat) (C1:Option Addr) (n1 r1:Nat) (W:World):Prop where
 b:Below w.heap.size w W
 k:Blk W w.heap.size 100 (csT sg st A m p B k q C n r)
 z:Blk W (w.heap.size+1) 100 (csT 0 0 none 0 0 none 0 0 none 0 0)
 s:Own3 100 (b7+1) b7 sg1 st1 A1 m1 p1 B1 k1 q1 C1 n1 r1 (er o i j) (er l i j) (er f i j) W
 lw:w.heap.size+1<b7
theorem own_len {W:World} {base:Nat} {e:TypeId} {A:Option Addr} {m p:Nat} {κ:IntKind} {l:List Int} (h:W.ownsRow base e 1 (.slice A m p) m (iv κ l)):m=l.length:=by
 have:=h.1
 rw [iv_len] at this
 omega
set_option maxRecDepth 100000 in
set_option maxHeartbeats 32000000 in
theorem rdrop_any (sg st:Int) (A:Option Addr) (m p:Nat) (B:Option Addr) (k q:Nat) (C:Option Addr) (n r:Nat) (o l f:List Int) (x:Int) (w:World) (h:TIn w A m B k C n o l f) (hok:okP ⟨sg,st,o,l,f⟩) :
 Calls Tryz.prog 100 #[.agg #[.int .i64 sg,.int .i64 st,.slice A m p,.slice B k q,.slice C n r],.int .i64 x] w (RefF (tabOf (dropT ⟨sg,st,o,l,f⟩ x)) (errOf (dropT ⟨sg,st,o,l,f⟩ x) 1) w):=by
 have hm:=(ok_full hok h).2.1
 have hk:=(ok_full hok h).2.2.1
 have hn:=(ok_full hok h).2.2.2.1
 have hml:=(ok_full hok h).2.2.2.2.1
 have lo:=h.a.len
 have ll:=h.b.len
 have lf:=h.c.len
 obtain ⟨ga,oa,rfl,hga,ca⟩:=h.a.cells (by omega)
 obtain ⟨gb,ob,rfl,hgb,cb⟩:=h.b.cells (by omega)
 obtain ⟨gc,oc,rfl,hgc,cc⟩:=h.c.cells (by omega)
 obtain ⟨y,HY⟩:∃ y,Hid (idx o x=y):=⟨_,Lib.hid rfl⟩
 have yb:-1≤y∧y<(m:Int):=by rw [← HY.out,lo]; exact ⟨idx_ge,idx_lt⟩
 have HT:=Lib.hid h
 have HLo:=Lib.hid lo
 have HLl:=Lib.hid ll
 have HLf:=Lib.hid lf
 have hk2:k=m:=hk
 have hn2:n=m:=hn
 have hv:=Tryz.zeroValue100
 have B0:Below w.heap.size w ((w.alloc (.cells #[.int .i64 sg,.int .i64 st,.slice (some ⟨ga,oa,none⟩) m p,.slice (some ⟨gb,ob,none⟩) k q,.slice (some ⟨gc,oc,none⟩) n r] 100)).alloc (.cells #[.int .i64 0,.int .i64 0,.slice none 0 0,.slice none 0 0,.slice none 0 0] 100)):=Ge.trans (below1 _ _) (below1 _ _)
 have K0:Blk ((w.alloc (.cells #[.int .i64 sg,.int .i64 st,.slice (some ⟨ga,oa,none⟩) m p,.slice (some ⟨gb,ob,none⟩) k q,.slice (some ⟨gc,oc,none⟩) n r] 100)).alloc (.cells #[.int .i64 0,.int .i64 0,.slice none 0 0,.slice none 0 0,.slice none 0 0] 100)) w.heap.size 100 (csT sg st (some ⟨ga,oa,none⟩) m p (some ⟨gb,ob,none⟩) k q (some ⟨gc,oc,none⟩) n r):=(Blk.new w _ _).later (below1 _ _)
 have Z0:Blk ((w.alloc (.cells #[.int .i64 sg,.int .i64 st,.slice (some ⟨ga,oa,none⟩) m p,.slice (some ⟨gb,ob,none⟩) k q,.slice (some ⟨gc,oc,none⟩) n r] 100)).alloc (.cells #[.int .i64 0,.int .i64 0,.slice none 0 0,.slice none 0 0,.slice none 0 0] 100)) (w.heap.size+1) 100 (csT 0 0 none 0 0 none 0 0 none 0 0):=Blk.at_ _ _ _ (by simp)
 have S0:w.heap.size+2≤((w.alloc (.cells #[.int .i64 sg,.int .i64 st,.slice (some ⟨ga,oa,none⟩) m p,.slice (some ⟨gb,ob,none⟩) k q,.slice (some ⟨gc,oc,none⟩) n r] 100)).alloc (.cells #[.int .i64 0,.int .i64 0,.slice none 0 0,.slice none 0 0,.slice none 0 0] 100)).heap.size:=by simp
 have C0:=Lib.hid (in_is sg st (some ⟨ga,oa,none⟩) m p (some ⟨gb,ob,none⟩) k q (some ⟨gc,oc,none⟩) n r o l f x y ((w.alloc (.cells #[.int .i64 sg,.int .i64 st,.slice (some ⟨ga,oa,none⟩) m p,.slice (some ⟨gb,ob,none⟩) k q,.slice (some ⟨gc,oc,none⟩) n r] 100)).alloc (.cells #[.int .i64 0,.int .i64 0,.slice none 0 0,.slice none 0 0,.slice none 0 0] 100)) (h.later B0) hml HY.out)
 have HKN:=Lib.hid (And.intro hk2 hn2)
 clear h lo ll lf hk hn hk2 hn2
 obtain ⟨W1,EW⟩:∃ W1,Hid (((w.alloc (.cells #[.int .i64 sg,.int .i64 st,.slice (some ⟨ga,oa,none⟩) m p,.slice (some ⟨gb,ob,none⟩) k q,.slice (some ⟨gc,oc,none⟩) n r] 100)).alloc (.cells #[.int .i64 0,.int .i64 0,.slice none 0 0,.slice none 0 0,.slice none 0 0] 100))=W1):=⟨_,rfl⟩
 rw [EW.out] at B0 K0 Z0 S0 C0
 go_enter Tryz.func100,Tryz.ntmps100
 go_upto_region 1 with fail
 rw [EW.out]
 clear EW
 go_wp2_with (with_reducible refine load_r rfl (.tmp 2) rfl w.heap.size rfl K0 ?_)
 refine C0.out.mono ?_
 rintro e' w2 ⟨rfl,hb⟩
 replace B0:=Ge.trans B0 hb
 replace K0:=K0.later hb
 replace Z0:=Z0.later hb
 replace S0:=Nat.le_trans S0 hb.size
 clear hb C0
 have e2:w2.cell? ⟨w.heap.size,2,none⟩=some (.slice (some ⟨ga,oa,none⟩) m p):=K0.cell 2
 have hz:Hid (Blk w2 (w.heap.size+1) 100 (csT 0 0 none 0 0 none 0 0 none 0 0)):=Lib.hid Z0
 by_cases hy:y<0
 ·have HC:Hid (dropT ⟨sg,st,o,l,f⟩ x=none):=Lib.hid (by unfold dropT; simp only; rw [HY.out,if_pos (.inl hy)])
  go_wp2_with (with_reducible refine store_r rfl (.tmp 4) (.tmp 22) rfl (w.heap.size+1) rfl rfl hz.out ?_)
  exact bodyPost_ret (res_r2 (y:=.int .i64 1) rfl _ _ (w.heap.size+1) rfl rfl (hz.out.row _)) rfl (by rw [HC.out]; exact zero_reff 1 w _ (below_row B0 (by omega) _))
 have w1:IntKind.i64.wrap ((m:Int)-1)=(m:Int)-1:=IntWalk.i64_in _ (by omega)
 by_cases hy2:y=(m:Int)-1
 ·have HC:Hid (dropT ⟨sg,st,o,l,f⟩ x=none):=Lib.hid (by unfold dropT; simp only; rw [HY.out,if_pos (.inr (by rw [← HLo.out]; exact hy2))])
  have hq:(y == (m:Int)-1)=true:=by simp [hy2]
  clear hy2
  go_wp2_with (with_reducible refine store_r rfl (.tmp 4) (.tmp 22) rfl (w.heap.size+1) rfl rfl hz.out ?_)
  exact bodyPost_ret (res_r2 (y:=.int .i64 1) rfl _ _ (w.heap.size+1) rfl rfl (hz.out.row _)) rfl (by rw [HC.out]; exact zero_reff 1 w _ (below_row B0 (by omega) _))
 have hq:(y == (m:Int)-1)=false:=by simp [hy2]
 obtain ⟨i,rfl⟩:∃ i:Nat,y=(i:Int):=⟨y.toNat,by omega⟩
 have hil:i+1<m:=by omega
 have HC:Hid (dropT ⟨sg,st,o,l,f⟩ x=some ⟨sg,st,o.eraseIdx i,l.eraseIdx i,f.eraseIdx i⟩):=Lib.hid (by
  unfold dropT
  simp only
  rw [HY.out,if_neg (by rw [← HLo.out]; omega)]
  rfl)
 have e0:w2.cell? ⟨w.heap.size,0,none⟩=some (.int .i64 sg):=K0.cell 0
 have e1:w2.cell? ⟨w.heap.size,1,none⟩=some (.int .i64 st):=K0.cell 1
 have N7:Blk (w2.alloc (.cells #[.int .i64 0,.int .i64 0,.slice none 0 0,.slice none 0 0,.slice none 0 0] 100)) w2.heap.size 100 (csT 0 0 none 0 0 none 0 0 none 0 0):=Blk.new w2 _ _
 clear hy hy2 yb
 go_upto_region 5 with (with_reducible refine store_r rfl (.tmp 7) (.tmp 27) rfl w2.heap.size rfl rfl N7 ?_)
 have D0:Hid (DrI w w2.heap.size sg st (some ⟨ga,oa,none⟩) m p (some ⟨gb,ob,none⟩) k q (some ⟨gc,oc,none⟩) n r o l f i 0 sg st none 0 0 none 0 0 none 0 0 ((w2.alloc (.cells #[.int .i64 0,.int .i64 0,.slice none 0 0,.slice none 0 0,.slice none 0 0] 100)).setRow w2.heap.size (csT sg st none 0 0 none 0 0 none 0 0))):=Lib.hid
  ⟨below_row (Ge.trans B0 (below1 _ _)) (by omega) _,(K0.later (below1 _ _)).far (by have:=K0.lt; omega) _,(Z0.later (below1 _ _)).far (by have:=Z0.lt; omega) _,
   ⟨N7.row _,by omega,⟨by rw [er_zero]; exact World.ownsRow_nil _ _ _ _,by rw [er_zero]; exact World.ownsRow_nil _ _ _ _,by rw [er_zero]; exact World.ownsRow_nil _ _ _ _,fun g hg=>by cases hg⟩,by rw [row_size]; simp⟩,by omega⟩
 clear e0 e1 e2 hz hq w1 B0 K0 Z0 S0 N7 hok hv
 generalize (w2.alloc (.cells #[.int .i64 0,.int .i64 0,.slice none 0 0,.slice none 0 0,.slice none 0 0] 100)).setRow w2.heap.size (csT sg st none 0 0 none 0 0 none 0 0)=w3 at *
 generalize w2.heap.size=b7 at *
 go_wp2_with fail
 go_loopg [8] m (fun gk s8 wr=>∃ j A1 m1 p1 B1 k1 q1 C1 n1 r1,j≤m∧gk=m-j∧s8=.int .i64 (j:Nat)∧Hid (DrI w b7 sg st (some ⟨ga,oa,none⟩) m p (some ⟨gb,ob,none⟩) k q (some ⟨gc,oc,none⟩) n r o l f i j sg st A1 m1 p1 B1 k1 q1 C1 n1 r1 wr))
 case atStart=>exact ⟨0,_,_,_,_,_,_,_,_,_,by omega,by omega,rfl,D0⟩
 case round =>
  obtain ⟨j,A1,m1,p1,B1,k1,q1,C1,n1,r1,hj,hgk,rfl,DD⟩:=hrel
  have HG:=Lib.hid hgk
  clear hgk D0
  have e2:wr.cell? ⟨w.heap.size,2,none⟩=some (.slice (some ⟨ga,oa,none⟩) m p):=DD.out.k.cell 2
  by_cases hlt:j<m
  ·have hji:(j:Int)<(m:Int):=by omega
   by_cases hne:j=i
   ·subst hne
    have hq:((j:Int) != (j:Int))=false:=by simp
    have D2:Hid (DrI w b7 sg st (some ⟨ga,oa,none⟩) m p (some ⟨gb,ob,none⟩) k q (some ⟨gc,oc,none⟩) n r o l f j (j+1) sg st A1 m1 p1 B1 k1 q1 C1 n1 r1 wr):=Lib.hid (by
     have D:=DD.out
     refine ⟨D.b,D.k,D.z,?_,D.lw⟩
     have S:=D.s
     rw [er_skip (by rw [← HLo.out]; exact hlt),er_skip (by rw [← HLl.out,HKN.out.1]; exact hlt),er_skip (by rw [← HLf.out,HKN.out.2]; exact hlt)]
     exact S)
    clear DD hlt
    go_wp2_with fail
    go_roundg (m-(j+1))
    case measure=>have:=HG.out; omega
    case rel=>exact ⟨j+1,_,_,_,_,_,_,_,_,_,by omega,rfl,by go_num,D2⟩
   ·have hq:((j:Int) != (i:Int))=true:=by simp; omega
    have hm1:m1<1000:=by have h1:=own_len DD.out.s.s.a; have h2:=er_len o i j; omega
    have hk1:k1<1000:=by have h1:=own_len DD.out.s.s.b; have h2:=er_len l i j; omega
    have hn1:n1<1000:=by have h1:=own_len DD.out.s.s.c; have h2:=er_len f i j; omega
    have hjk:(j:Int)<(k:Int):=by rw [HKN.out.1]; exact hji
    have hjn:(j:Int)<(n:Int):=by rw [HKN.out.2]; exact hji
    have hb7:=DD.out.lw
    obtain ⟨u1,U1⟩:∃ u,Hid (nth o j=u):=⟨_,Lib.hid rfl⟩
    obtain ⟨u2,U2⟩:∃ u,Hid (nth l j=u):=⟨_,Lib.hid rfl⟩
    obtain ⟨u3,U3⟩:∃ u,Hid (nth f j=u):=⟨_,Lib.hid rfl⟩
    have ga1:wr.cell? ⟨ga,oa+j,none⟩=some (.int .i64 u1):=by rw [((bcell DD.out.b).1 _ _ hga),ca j hlt,U1.out]
    have b2:Below wr.heap.size wr (wr.alloc (.cells #[.int .i64 u1] 3)).drew:=Ge.trans (below1 _ _) (below_drawn _)
    obtain ⟨gA,pA,Y2,run2,cA,fA,O4,bl2,kl2⟩:=(DD.out.s.later b2).push_a (nb:=wr.heap.size) (x:=u1) (((Blk.new wr 3 #[.int .i64 u1]).later (below_drawn _)).cell 0) hm1
    have k2:wr.cell? ⟨b7,2,none⟩=some (.slice A1 m1 p1):=DD.out.s.z.cell 2
    have k2' : (wr.alloc (.cells #[.int .i64 u1] 3)).cell? ⟨b7,2,none⟩=some (.slice A1 m1 p1):=(DD.out.s.z.later (below1 _ _)).cell 2
    have X4:Hid (Below w.heap.size w (Y2.setCell ⟨b7,2,none⟩ (.slice (some ⟨gA,0,none⟩) (m1+1) pA))∧Blk (Y2.setCell ⟨b7,2,none⟩ (.slice (some ⟨gA,0,none⟩) (m1+1) pA)) w.heap.size 100 (csT sg st (some ⟨ga,oa,none⟩) m p (some ⟨gb,ob,none⟩) k q (some ⟨gc,oc,none⟩) n r)∧Blk (Y2.setCell ⟨b7,2,none⟩ (.slice (some ⟨gA,0,none⟩) (m1+1) pA)) (w.heap.size+1) 100 (csT 0 0 none 0 0 none 0 0 none 0 0)) :=
     Lib.hid ⟨bl2 w (Ge.trans DD.out.b b2) (by omega),kl2 _ _ _ (DD.out.k.later b2) (by omega) (by omega),kl2 _ _ _ (DD.out.z.later b2) (by omega) (by omega)⟩
    have HO4:=Lib.hid O4
    clear O4 bl2 kl2 b2 DD
    go_upto_region 9 with fail
    go_cut [] (fun wx=>Y2.setCell ⟨b7,2,none⟩ (.slice (some ⟨gA,0,none⟩) (m1+1) pA)=wx)
    case first =>
     go_region_law (refine step_append_run rfl (.tmp 39) (.tmp 45) 51 rfl _ _ rfl rfl run2 ?_)
     all_goals
      go_wp2_with fail
      go_meet
      rfl
    case rest =>
    subst hcut
    clear run2 cA fA k2 k2' ga1 e2
    generalize Y2.setCell ⟨b7,2,none⟩ (.slice (some ⟨gA,0,none⟩) (m1+1) pA)=wr2 at *
    have e3:wr2.cell? ⟨w.heap.size,3,none⟩=some (.slice (some ⟨gb,ob,none⟩) k q):=X4.out.2.1.cell 3
    have gb1:wr2.cell? ⟨gb,ob+j,none⟩=some (.int .i64 u2):=by rw [((bcell X4.out.1).1 _ _ hgb),cb j (by omega),U2.out]
    have b2:Below wr2.heap.size wr2 (wr2.alloc (.cells #[.int .i64 u2] 3)).drew:=Ge.trans (below1 _ _) (below_drawn _)
    obtain ⟨gB,pB,Y4,run4,cB,fB,O6,bl2,kl2⟩:=(HO4.out.later b2).push_b (nb:=wr2.heap.size) (x:=u2) (((Blk.new wr2 3 #[.int .i64 u2]).later (below_drawn _)).cell 0) hk1
    have k3:wr2.cell? ⟨b7,3,none⟩=some (.slice B1 k1 q1):=HO4.out.z.cell 3
    have k3' : (wr2.alloc (.cells #[.int .i64 u2] 3)).cell? ⟨b7,3,none⟩=some (.slice B1 k1 q1):=(HO4.out.z.later (below1 _ _)).cell 3
    have X6:Hid (Below w.heap.size w (Y4.setCell ⟨b7,3,none⟩ (.slice (some ⟨gB,0,none⟩) (k1+1) pB))∧Blk (Y4.setCell ⟨b7,3,none⟩ (.slice (some ⟨gB,0,none⟩) (k1+1) pB)) w.heap.size 100 (csT sg st (some ⟨ga,oa,none⟩) m p (some ⟨gb,ob,none⟩) k q (some ⟨gc,oc,none⟩) n r)∧Blk (Y4.setCell ⟨b7,3,none⟩ (.slice (some ⟨gB,0,none⟩) (k1+1) pB)) (w.heap.size+1) 100 (csT 0 0 none 0 0 none 0 0 none 0 0)) :=
     Lib.hid ⟨bl2 w (Ge.trans X4.out.1 b2) (by omega),kl2 _ _ _ (X4.out.2.1.later b2) (by omega) (by omega),kl2 _ _ _ (X4.out.2.2.later b2) (by omega) (by omega)⟩
    have HO6:=Lib.hid O6
    clear O6 bl2 kl2 b2 HO4 X4
    go_wp2_with fail
    go_cut [] (fun wx=>Y4.setCell ⟨b7,3,none⟩ (.slice (some ⟨gB,0,none⟩) (k1+1) pB)=wx)
    case first =>
     go_region_law (refine step_append_run rfl (.tmp 49) (.tmp 55) 51 rfl _ _ rfl rfl run4 ?_)
     all_goals
      go_wp2_with fail
      go_meet
      rfl
    case rest =>
    subst hcut
    clear run4 cB fB k3 k3' gb1 e3
    generalize Y4.setCell ⟨b7,3,none⟩ (.slice (some ⟨gB,0,none⟩) (k1+1) pB)=wr4 at *
    have e4:wr4.cell? ⟨w.heap.size,4,none⟩=some (.slice (some ⟨gc,oc,none⟩) n r):=X6.out.2.1.cell 4
    have gc1:wr4.cell? ⟨gc,oc+j,none⟩=some (.int .u64 u3):=by rw [((bcell X6.out.1).1 _ _ hgc),cc j (by omega),U3.out]
    have b2:Below wr4.heap.size wr4 (wr4.alloc (.cells #[.int .u64 u3] 43)).drew:=Ge.trans (below1 _ _) (below_drawn _)
    obtain ⟨gC,pC,Y6,run6,cC,fC,O8,bl2,kl2⟩:=(HO6.out.later b2).push_c (nb:=wr4.heap.size) (x:=u3) (((Blk.new wr4 43 #[.int .u64 u3]).later (below_drawn _)).cell 0) hn1
    have k4:wr4.cell? ⟨b7,4,none⟩=some (.slice C1 n1 r1):=HO6.out.z.cell 4
    have k4' : (wr4.alloc (.cells #[.int .u64 u3] 43)).cell? ⟨b7,4,none⟩=some (.slice C1 n1 r1):=(HO6.out.z.later (below1 _ _)).cell 4
    have D2:Hid (DrI w b7 sg st (some ⟨ga,oa,none⟩) m p (some ⟨gb,ob,none⟩) k q (some ⟨gc,oc,none⟩) n r o l f i (j+1) sg st (some ⟨gA,0,none⟩) (m1+1) pA (some ⟨gB,0,none⟩) (k1+1) pB (some ⟨gC,0,none⟩) (n1+1) pC (Y6.setCell ⟨b7,4,none⟩ (.slice (some ⟨gC,0,none⟩) (n1+1) pC))):=Lib.hid (by
     refine ⟨bl2 w (Ge.trans X6.out.1 b2) (by omega),kl2 _ _ _ (X6.out.2.1.later b2) (by omega) (by omega),kl2 _ _ _ (X6.out.2.2.later b2) (by omega) (by omega),?_,hb7⟩
     rw [er_push (by rw [← HLo.out]; exact hlt) hne,er_push (by rw [← HLl.out,HKN.out.1]; exact hlt) hne,er_push (by rw [← HLf.out,HKN.out.2]; exact hlt) hne,U1.out,U2.out,U3.out]
     exact O8)
    clear O8 bl2 kl2 b2 HO6 X6
    go_wp2_with fail
    go_region_law (refine step_append_run rfl (.tmp 59) (.tmp 65) 62 rfl _ _ rfl rfl run6 ?_)
    all_goals
     clear run6 cC fC k4 k4' gc1 e4
     generalize Y6.setCell ⟨b7,4,none⟩ (.slice (some ⟨gC,0,none⟩) (n1+1) pC)=wr6 at *
     go_wp2_with fail
     go_roundg (m-(j+1))
     case measure=>have:=HG.out; omega
     case rel=>exact ⟨j+1,_,_,_,_,_,_,_,_,_,by omega,rfl,by go_num,D2⟩
  ·obtain rfl:j=m:=by omega
   have hji:¬ (j:Int)<(j:Int):=by omega
   have K:=Lib.hid DD.out.s.z
   have Z:=Lib.hid DD.out.z
   go_wp2_with (first
    | (with_reducible refine load_r rfl (.tmp 7) rfl b7 rfl K.out ?_)
    | (with_reducible refine store_r rfl (.tmp 4) (.tmp 68) rfl (w.heap.size+1) rfl rfl Z.out ?_))
   have hb7:=DD.out.lw
   have R9:=DD.out.s.s.row (b:=w.heap.size+1) (cs:=csT sg st A1 m1 p1 B1 k1 q1 C1 n1 r1) (by omega)
   exact bodyPost_ret (res_r2 (y:=.int .i64 0) rfl _ _ (w.heap.size+1) rfl rfl (Z.out.row _)) rfl (by
    rw [HC.out]
    have T:=R9.tin
    have FF:=(R9.wide (b':=w.heap.size) (by omega)).fresh
    rw [show er o i j=o.eraseIdx i by rw [HLo.out]; exact er_all o i,show er l i j=l.eraseIdx i by rw [← HKN.out.1,HLl.out]; exact er_all l i,show er f i j=f.eraseIdx i by rw [← HKN.out.2,HLf.out]; exact er_all f i] at T
    exact ⟨_,_,_,_,_,_,_,_,_,rfl,T,FF,below_row DD.out.b (by omega) _⟩)
open Go.RowKit Go.Lib
set_option linter.unusedVariables false
section
variable {ops:Array Oper} {o:Oper} {a:Act} {w:World} {K:Act→World→Prop} {Q' : Exit→Act→World→Prop} {E:Prop}
end
open Go.RowKit Go.Lib
set_option linter.unusedVariables false
theorem fresh_one {W:World} {b base:Nat} {t:TypeId} {v:Value} (h:Blk W b t #[v]) (hb:base≤b):Fresh W base (some ⟨b,0,none⟩) 1:=fun _ =>
 ⟨b,0,rfl,hb,fun j hj=>by obtain rfl:j=0:=by omega
                          exact ⟨⟨v,h.cell 0⟩,h.frozen 0⟩⟩
set_option maxHeartbeats 1000000 in
theorem rnew_own (sg st first:Int) (w:World):Calls Tryz.prog 55 #[.int .i64 sg,.int .i64 st,.int .u64 first] w (RefF (if sizeB sg st=true then newT sg st first else zeroT) (if sizeB sg st=true then 0 else 1) w):=by
 have K0:=Lib.hid (show Blk (w.alloc (.cells #[.int .i64 0,.int .i64 0,.slice none 0 0,.slice none 0 0,.slice none 0 0] 100)) w.heap.size 100 (csT 0 0 none 0 0 none 0 0 none 0 0) from Blk.new w _ _)
 have B0:=Lib.hid (below1 w (.cells #[.int .i64 0,.int .i64 0,.slice none 0 0,.slice none 0 0,.slice none 0 0] 100))
 have hv:=Tryz.zeroValue100
 obtain ⟨b,Hb⟩:∃ b,Hid (sizeB sg st=b):=⟨_,Lib.hid rfl⟩
 rw [Hb.out]
 cases b with
 | false =>
   rw [if_neg (by decide),if_neg (by decide)]
   go_enter Tryz.func55,Tryz.ntmps55
   go_wp2_with fail
   refine (may_is sg st _ _ Hb.out).mono ?_
   rintro e w' ⟨rfl,rfl⟩
   go_wp2_with (with_reducible refine store_r rfl (.tmp 6) (.tmp 12) rfl w.heap.size rfl rfl K0.out ?_)
   exact bodyPost_ret (res_r2 (y:=.int .i64 1) rfl _ _ w.heap.size rfl rfl (K0.out.row _)) rfl (zero_reff 1 w _ (below_row B0.out (Nat.le_refl _) _))
 | true =>
   rw [if_pos rfl,if_pos rfl]
   obtain ⟨W1,hW1⟩:∃ W1,Hid ((((w.alloc (.cells #[.int .i64 0,.int .i64 0,.slice none 0 0,.slice none 0 0,.slice none 0 0] 100)).alloc (.cells #[.int .i64 0] 3)).alloc (.cells #[.int .i64 0] 3)).alloc (.cells #[.int .u64 first] 43)=W1):=⟨_,Lib.hid rfl⟩
   have b1:=below1 (w.alloc (.cells #[.int .i64 0,.int .i64 0,.slice none 0 0,.slice none 0 0,.slice none 0 0] 100)) (.cells #[.int .i64 0] 3)
   have b2:=below1 ((w.alloc (.cells #[.int .i64 0,.int .i64 0,.slice none 0 0,.slice none 0 0,.slice none 0 0] 100)).alloc (.cells #[.int .i64 0] 3)) (.cells #[.int .i64 0] 3)
   have b3:=below1 (((w.alloc (.cells #[.int .i64 0,.int .i64 0,.slice none 0 0,.slice none 0 0,.slice none 0 0] 100)).alloc (.cells #[.int .i64 0] 3)).alloc (.cells #[.int .i64 0] 3)) (.cells #[.int .u64 first] 43)
   have K3:=((K0.out.later b1).later b2).later b3
   have X1:=((Blk.at_ (b:=w.heap.size+1) (w.alloc (.cells #[.int .i64 0,.int .i64 0,.slice none 0 0,.slice none 0 0,.slice none 0 0] 100)) 3 #[.int .i64 0] (by simp)).later b2).later b3
   have X2:=(Blk.at_ (b:=w.heap.size+1+1) ((w.alloc (.cells #[.int .i64 0,.int .i64 0,.slice none 0 0,.slice none 0 0,.slice none 0 0] 100)).alloc (.cells #[.int .i64 0] 3)) 3 #[.int .i64 0] (by simp)).later b3
   have X3:=Blk.at_ (b:=w.heap.size+1+1+1) (((w.alloc (.cells #[.int .i64 0,.int .i64 0,.slice none 0 0,.slice none 0 0,.slice none 0 0] 100)).alloc (.cells #[.int .i64 0] 3)).alloc (.cells #[.int .i64 0] 3)) 43 #[.int .u64 first] (by simp)
   have BB:=Ge.trans (Ge.trans (Ge.trans B0.out b1) b2) b3
   rw [hW1.out] at K3 X1 X2 X3 BB
   have HK:=Lib.hid K3
   clear K3 b1 b2 b3
   go_enter Tryz.func55,Tryz.ntmps55
   go_wp2_with fail
   refine (may_is sg st _ _ Hb.out).mono ?_
   rintro e w' ⟨rfl,rfl⟩
   go_wp2_with (rw [hW1.out]; with_reducible refine store_r rfl (.tmp 6) (.tmp 19) rfl w.heap.size rfl rfl HK.out ?_)
   exact bodyPost_ret (res_r2 rfl _ _ w.heap.size rfl rfl (HK.out.row _)) rfl ⟨_,1,_,_,1,_,_,1,_,rfl,⟨sl_one (X1.far (by omega) _),sl_one (X2.far (by omega) _),sl_one (X3.far (by omega) _)⟩,⟨fresh_one (X1.far (by omega) _) (by omega),fresh_one (X2.far (by omega) _) (by omega),fresh_one (X3.far (by omega) _) (by omega)⟩,below_row BB (Nat.le_refl _) _⟩
end Go.Proofs.YtdpmjlbkojhooaaGreat.Tb
