/- A part. -/
import Derived.Test.YtcnohlgigmmefaaGreatPLhG
import Derived.Test.YtcnohlgigmmefaaGreatPLhH
import Derived.Defers
import Derived.Recover
namespace Go.Proofs.YtcnohlgigmmefaaGreat.Lg
open Go.RowKit Go.Lib
open Tb (Tab TIn Sl okP csT lastN nth Fresh)
open Dk (St Only Grew)
set_option linter.unusedVariables false
set_option maxRecDepth 100000
theorem res_err {fn:Func} {p' : Tmp} (h:fn.results=#[.cell p' 49]) (tmps:Array Value) (W:World) (b:Nat) {y:Int} (hp:tmps.getD p' undef=.pointer (some ⟨b,0,none⟩)) (M:W.cell? ⟨b,0,none⟩=some (.int .i64 y)) :
 (results fn tmps).run Tryz.prog W=.ok (.int .i64 y) W:=by
 have hp' : tmps[p']?.getD undef=.pointer (some ⟨b,0,none⟩):=by simpa using hp
 have h2:(loadVar 49 ⟨b,0,none⟩).run Tryz.prog W=.ok (.int .i64 y) W:=by
  simp [go_sem,M]
 simp [results,h,hp',asAddr,h2]
theorem wcatch_idle (p q r:Addr) (w:World) :
 CallsD Tryz.prog 133 #[.pointer (some p),.pointer (some q),.pointer (some r)] .returning w fun e u' w'=>e=.returned (.tuple #[])∧u' = .returning∧w' = w:=by
 refine callsD_of_wpS Tryz.func133 rfl fun c₀ cs hu=>?_
 apply wpS_seq
 apply wpS_region
 simp [wpOpsS,go_sem,recoverD,hu,Tryz.ntmps133,Exit.thenS]
 refine wpS_of_wp ?_
 rw [show #[Value.pointer (some p),Value.pointer (some q),Value.pointer (some r)]++(Array.replicate 13 undef).setIfInBounds 3 Value.nilIface=#[.pointer (some p),.pointer (some q),.pointer (some r),undef,undef,undef,.nilIface,undef,undef,undef,undef,undef,undef,undef,undef,undef] from rfl]
 go_wp2_with fail
 cases c₀
 simp_all [bodyPostS,results,Tryz.results133]
theorem wcatch_panicking {T T' : TypeId} (pb g qb rb d:Nat) (sg st:Int) (A:Option Addr) (m p:Nat) (B:Option Addr) (k q:Nat) (C:Option Addr) (n r:Nat) (ls ep gn y y0:Int) (cs0:Array Value) (w:World) (hz:cs0.size=9) (hp:Tb.Blk w pb T (csL d sg st A m p B k q C n r ls ep gn)) (hg:Tb.Blk w g T' cs0) (hq:w.cell? ⟨qb,0,none⟩=some (.pointer (some ⟨g,0,none⟩))) (hr:Tb.Blk w rb 49 #[.int .i64 y0]) (hne:g≠rb) :
 CallsD Tryz.prog 133 #[.pointer (some ⟨pb,0,none⟩),.pointer (some ⟨qb,0,none⟩),.pointer (some ⟨rb,0,none⟩)] (.panicking (pan y)) w fun e u' w' =>
  e=.returned (.tuple #[])∧u' = .panicking [{ v:=.iface 49 (.int .i64 y),recovered:=true }]∧w' = (w.setRow g (csL d sg st A m p B k q C n r ls ep gn)).setCell ⟨rb,0,none⟩ (.int .i64 y):=by
 refine callsD_of_wpS Tryz.func133 rfl fun c₀ cs hu=>?_
 unfold pan at hu
 apply wpS_seq
 apply wpS_region
 simp [wpOpsS,go_sem,recoverD,hu,Tryz.ntmps133,Exit.thenS]
 refine wpS_of_wp ?_
 rw [show #[Value.pointer (some ⟨pb,0,none⟩),Value.pointer (some ⟨qb,0,none⟩),Value.pointer (some ⟨rb,0,none⟩)]++(Array.replicate 13 undef).setIfInBounds 3 (Value.iface 49 (.int .i64 y))=#[.pointer (some ⟨pb,0,none⟩),.pointer (some ⟨qb,0,none⟩),.pointer (some ⟨rb,0,none⟩),undef,undef,undef,.iface 49 (.int .i64 y),undef,undef,undef,undef,undef,undef,undef,undef,undef] from rfl]
 have hta:∀ w:World,(Instr.typeAssert (.iface 49 (.int .i64 y)) 20 49 true).run Tryz.prog w=.ok (.tuple #[.int .i64 y,.bool true]) w:=fun _=>by kernel_rfl
 have hr2:=hr.far hne (csL d sg st A m p B k q C n r ls ep gn)
 have c0:(w.setRow g (csL d sg st A m p B k q C n r ls ep gn)).cell? ⟨rb,0,none⟩=some (.int .i64 y0):=hr2.cell 0
 have f0:=hr2.frozen 0
 clear hr hr2
 go_wp2_with (first
  | (with_reducible refine load_lg rfl (.tmp 0) rfl pb rfl hp ?_)
  | (with_reducible refine store_lg rfl (.tmp 14) (.tmp 13) rfl g rfl rfl hz hg ?_))
 cases c₀
 simp_all [bodyPostS,results,Tryz.results133]
def WorkE (W0:World) (j g d:Nat) (ep:Int) (Kq:Kp) (it:Dk.Item) (y:Int) (items1 items2:List Dk.Item) (t1:Tab) (ls1 gn1:Int) (e:Ending) (w' : World):Prop :=
 (y=0∧e=.returned (.tuple #[])∧Dk.Sep W0 w' (items1.set j (logX 156 g d t1 ls1 ep gn1 Kq)++[it])) ∨
 (y≠0∧e=.panicked (pan y)∧∃ t' ls' gn',Dk.Sep W0 w' (items2.set j (logX 156 g d t' ls' ep gn' Kq)++[it]))
theorem whole_put {W0 w:World} {items:List Dk.Item} {L:List (Nat × TypeId × Array Value)} {T:TypeId} {cs0:Array Value} (h:Dk.Sep W0 w (items++[locI L])) (b:Nat) (cs:Array Value) (hb:(b,T,cs0)∈L):Dk.Sep W0 (w.setRow b cs) items:=by
 have h1:=loc_row (l':=[]) h app_last b ⟨_,hb,rfl⟩ cs (fun x hx=>by cases hx) (fun x hx=>by cases hx)
 rw [app_set_last] at h1
 exact loc_drop h1
set_option maxHeartbeats 8000000 in
theorem whole_any {W0 w:World} {items items1 items2:List Dk.Item} {j g d:Nat} {t t1:Tab} {ls ep gn ls1 gn1 y:Int} {i1 i2:Dk.Item} (h:Dk.Sep W0 w items) (hj:items[j]? = some (logI 156 g d t ls ep gn)) (hj1:items1[j]? = some i1) (hj2:items2[j]? = some i2) (f:FuncId) (fst cap:Array Value)
 (hcf:∀ w,(callFunc f (fst++cap)).run Tryz.prog w=.ok (.enter f (fst++cap)) w)
 (hwork:∀ (Kq:Kp) (w1:World) (it:Dk.Item),Dk.Sep W0 w1 (items.set j (logX 156 g d t ls ep gn Kq)++[it])→Calls Tryz.prog f (fst++cap) w1 (WorkE W0 j g d ep Kq it y items1 items2 t1 ls1 gn1)) :
 Calls Tryz.prog 87 #[.pointer (some ⟨g,0,none⟩),.func (.func f) fst cap] w fun e w'=>e=.returned (.int .i64 y)∧(y=0→Dk.Sep W0 w' (items1.set j (logI 156 g d t1 ls1 ep gn1)))∧(y≠0→Dk.Sep W0 w' (items2.set j (logI 156 g d t ls ep gn))):=by
 have hmf:∀ (fn:Fn) (first cap:Array Value) (w:World),(Instr.makeFunc fn first cap).run Tryz.prog w=.ok (.func fn first cap) w:=fun _ _ _ _=>rfl
 have hvP:=Tryz.zeroValue156
 have hvE:=Tryz.zeroValue49
 obtain ⟨A,m,p,B,k,q,C,n,r,hB,hK⟩:=x_keep h hj
 have HWK:=Lib.hid hwork
 clear hwork h
 go_enter_defers Tryz.func87,Tryz.ntmps87
 have B0:Below w.heap.size w ((w.alloc (.cells #[.pointer (some ⟨g,0,none⟩)] 62)).alloc (.cells #[.int .i64 0] 49)):=NewC.geTrans (NewC.below1 _ _) (NewC.below1 _ _)
 have N2:Tb.Blk ((w.alloc (.cells #[.pointer (some ⟨g,0,none⟩)] 62)).alloc (.cells #[.int .i64 0] 49)) w.heap.size 62 #[.pointer (some ⟨g,0,none⟩)]:=(Tb.Blk.new w _ _).later (NewC.below1 _ _)
 have N4:Tb.Blk ((w.alloc (.cells #[.pointer (some ⟨g,0,none⟩)] 62)).alloc (.cells #[.int .i64 0] 49)) (w.heap.size+1) 49 #[.int .i64 0]:=Tb.Blk.at_ _ _ _ (by simp)
 have hB1:=hB.later B0
 go_upto_region 1 with fail
 generalize ((w.alloc (.cells #[.pointer (some ⟨g,0,none⟩)] 62)).alloc (.cells #[.int .i64 0] 49))=w1 at *
 have N5:Tb.Blk (w1.alloc (.cells #[.pointer none,.int .i64 0,.int .i64 0,.slice none 0 0,.slice none 0 0,.slice none 0 0,.int .u64 0,.int .u32 0,.int .u64 0] 156)) w1.heap.size 156 #[.pointer none,.int .i64 0,.int .i64 0,.slice none 0 0,.slice none 0 0,.slice none 0 0,.int .u64 0,.int .u32 0,.int .u64 0]:=Tb.Blk.new w1 _ _
 have c2:w1.cell? ⟨w.heap.size,0,none⟩=some (.pointer (some ⟨g,0,none⟩)):=N2.cell 0
 go_upto_region 2 with (first
  | (with_reducible refine load_lg rfl (.tmp 7) rfl g rfl hB1 ?_)
  | (with_reducible refine store_lg rfl (.tmp 5) (.tmp 8) rfl w1.heap.size rfl rfl rfl N5 ?_; rw [World.setRow_alloc_new]))
 have N6:Tb.Blk (w1.alloc (.cells (csL d t.sg t.st A m p B k q C n r ls ep gn) 156)) w1.heap.size 156 (csL d t.sg t.st A m p B k q C n r ls ep gn):=Tb.Blk.new w1 _ _
 have hb:=Tb.below1 w1 (.cells (csL d t.sg t.st A m p B k q C n r ls ep gn) 156)
 have hgl:g<w.heap.size:=hB.lt
 have hb5:w.heap.size+1<w1.heap.size:=N4.lt
 replace N2:=N2.later hb
 replace N4:=N4.later hb
 have B2:=NewC.geTrans B0 hb
 clear N5 c2 hB1 hB hb B0
 generalize w1.alloc (.cells (csL d t.sg t.st A m p B k q C n r ls ep gn) 156)=w2 at *
 generalize w1.heap.size=b5 at *
 have h2:Dk.Sep W0 w2 (items.set j (logX 156 g d t ls ep gn ⟨A,m,p,B,k,q,C,n,r,t⟩)++[locI [(w.heap.size,62,#[.pointer (some ⟨g,0,none⟩)]),((w.heap.size+1),49,#[.int .i64 0]),(b5,156,(csL d t.sg t.st A m p B k q C n r ls ep gn))]]):=loc_new hK B2 (fun x hx=>by
  rcases List.mem_cons.1 hx with rfl|hx
  ·exact N2
  ·rcases List.mem_cons.1 hx with rfl|hx
   ·exact N4
   ·rcases List.mem_cons.1 hx with rfl|hx
    ·exact N6
    ·cases hx) (fun x hx=>by
  rcases List.mem_cons.1 hx with rfl|hx
  ·exact Nat.le_refl _
  ·rcases List.mem_cons.1 hx with rfl|hx
   ·exact Nat.le_succ _
   ·rcases List.mem_cons.1 hx with rfl|hx
    ·show w.heap.size≤b5; omega
    ·cases hx)
 have HC:=Lib.hid (HWK.out ⟨A,m,p,B,k,q,C,n,r,t⟩ w2 (locI [(w.heap.size,62,#[.pointer (some ⟨g,0,none⟩)]),((w.heap.size+1),49,#[.int .i64 0]),(b5,156,(csL d t.sg t.st A m p B k q C n r ls ep gn))]) h2)
 clear HWK hK h2 N2 N4 N6 B2
 simp only [Act.put]
 go_wp2_with fail
 refine HC.out.mono ?_
 rintro e' w3 (⟨hy,rfl,h3⟩ | ⟨hy,rfl,t',ls',gn',h3⟩)
 ·have N4:Tb.Blk w3 (w.heap.size+1) 49 #[.int .i64 0]:=loc_at h3 app_last _ (List.mem_cons_of_mem _ (List.mem_cons_self ..))
  have hE:w3.setCell ⟨(w.heap.size+1),0,none⟩ (.int .i64 0)=w3.setRow (w.heap.size+1) #[.int .i64 0]:=set_row N4 0 _
  have h4:=Lib.hid (whole_put h3 (w.heap.size+1) #[.int .i64 0] (List.mem_cons_of_mem _ (List.mem_cons_self ..)))
  have N5:=Lib.hid (N4.row #[.int .i64 0])
  have c4:w3.cell? ⟨(w.heap.size+1),0,none⟩=some (.int .i64 0):=N4.cell 0
  have f4:=N4.frozen 0
  clear h3 HC N4
  have HY:=Lib.hid hy
  clear hy
  go_wp2_with fail
  refine leaves_cons (f:=133) (args:=#[.pointer (some ⟨b5,0,none⟩),.pointer (some ⟨w.heap.size,0,none⟩),.pointer (some ⟨(w.heap.size+1),0,none⟩)]) (by simp) (by simp [go_sem]) ?_
  refine (wcatch_idle ⟨b5,0,none⟩ ⟨w.heap.size,0,none⟩ ⟨(w.heap.size+1),0,none⟩ _).mono ?_
  rintro e' u' w'' ⟨rfl,rfl,rfl⟩
  refine ⟨_,res_err rfl _ _ (w.heap.size+1) (y:=0) rfl (N5.out.cell 0),by rw [HY.out],fun _=>?_,fun hn=>absurd HY.out hn⟩
  have h5:=x_forget h4.out (get_self hj1)
  rw [set_set] at h5
  exact h5
 ·have N2:Tb.Blk w3 w.heap.size 62 #[.pointer (some ⟨g,0,none⟩)]:=loc_at h3 app_last _ (List.mem_cons_self ..)
  have N4:Tb.Blk w3 (w.heap.size+1) 49 #[.int .i64 0]:=loc_at h3 app_last _ (List.mem_cons_of_mem _ (List.mem_cons_self ..))
  have N5:Tb.Blk w3 b5 156 (csL d t.sg t.st A m p B k q C n r ls ep gn):=loc_at h3 app_last _ (List.mem_cons_of_mem _ (List.mem_cons_of_mem _ (List.mem_cons_self ..)))
  obtain ⟨⟨cs,hz,hB3⟩,h4⟩:=x_back h3 (app_at (get_self hj2)) ls ep gn
  rw [app_set (get_self hj2),set_set] at h4
  have N6:Tb.Blk (w3.setRow g (csL d t.sg t.st A m p B k q C n r ls ep gn)) (w.heap.size+1) 49 #[.int .i64 0]:=N4.far (show g≠(w.heap.size+1) by omega) _
  have hE:(w3.setRow g (csL d t.sg t.st A m p B k q C n r ls ep gn)).setCell ⟨(w.heap.size+1),0,none⟩ (.int .i64 y)=(w3.setRow g (csL d t.sg t.st A m p B k q C n r ls ep gn)).setRow (w.heap.size+1) #[.int .i64 y]:=set_row N6 0 _
  have h5:=loc_drop (a:=locI _) (loc_row (l':=[]) h4 app_last (w.heap.size+1) ⟨_,List.mem_cons_of_mem _ (List.mem_cons_self ..),rfl⟩ #[.int .i64 y] (fun x hx=>by cases hx) (fun x hx=>by cases hx) |> fun h=>by rw [app_set_last] at h; exact h)
  refine leaves_cons (f:=133) (args:=#[.pointer (some ⟨b5,0,none⟩),.pointer (some ⟨w.heap.size,0,none⟩),.pointer (some ⟨(w.heap.size+1),0,none⟩)]) (by simp) (by simp [go_sem]) ?_
  refine (wcatch_panicking b5 g w.heap.size (w.heap.size+1) d _ _ _ _ _ _ _ _ _ _ _ ls ep gn y 0 cs w3 hz N5 hB3 (N2.cell 0) N4 (by omega)).mono ?_
  rintro e' u' w'' ⟨rfl,rfl,rfl⟩
  rw [hE]
  refine ⟨_,res_err rfl _ _ (w.heap.size+1) (y:=y) rfl ((N6.row #[.int .i64 y]).cell 0),rfl,fun h0=>absurd h0 hy,fun _=>h5⟩
end Go.Proofs.YtcnohlgigmmefaaGreat.Lg
