/- A part. -/
import Derived.Test.YtcnohlgigmmefaaGreatPMem
import Derived.Test.YtcnohlgigmmefaaGreatPClass
import Derived.WalkKit
import Derived.Lib.Hide
import Derived.WalkLawsBesides
import Derived.WalkSmall
import Derived.Deep.LoopGhost
import Derived.Deep.WholeRow
import Derived.Maps.AppendAt
import Derived.Laws.OwnMore
import Derived.Deep.RegionLaw
import Derived.IntWalk
import Derived.Deep.Cut
import Derived.Deep.DeepCutAuto
import Derived.RangeFuncNested
import Derived.RangeFuncBound
import Derived.RangeFuncCalls
import Derived.RangeFuncLeaves
import Derived.RangeFuncBox
import Derived.Shelf.Abstract
import Derived.Shelf.RegionOpen
import Derived.OwnWalkIn
import Derived.TacticsInMore
import Derived.LoopNIn
import Derived.LoopIn
namespace Go.Proofs.YtcnohlgigmmefaaGreat.Tb
open Go.RowKit Go.Lib
set_option linter.unusedVariables false
set_option maxRecDepth 100000
open Go.RowKit Go.Lib
set_option linter.unusedVariables false
structure Tab where
 sg:Int
 st:Int
 o:List Int
 l:List Int
 f:List Int
deriving DecidableEq
def nth (l:List Int) (i:Nat):Int:=l.getD i 0
theorem nth_lt {l:List Int} {i:Nat} (h:i<l.length):nth l i=l[i]:=by
 unfold nth; rw [List.getD_eq_getElem?_getD,List.getElem?_eq_getElem h]; rfl
theorem nth_mem {l:List Int} {i:Nat} (h:i<l.length):nth l i∈l:=by
 rw [nth_lt h]; exact List.getElem_mem h
theorem take_nth {l:List Int} {i:Nat} (h:i<l.length):l.take (i+1)=l.take i++[nth l i]:=by
 rw [List.take_succ_eq_append_getElem h,nth_lt h]
theorem nth_take {l:List Int} {i j:Nat} (h:j<i):nth (l.take i) j=nth l j:=by
 unfold nth; rw [List.getD_eq_getElem?_getD,List.getD_eq_getElem?_getD,List.getElem?_take_of_lt h]
theorem nth_app {l m:List Int} {i:Nat} (h:i<l.length):nth (l++m) i=nth l i:=by
 unfold nth; rw [List.getD_eq_getElem?_getD,List.getD_eq_getElem?_getD,List.getElem?_append_left h]
theorem nth_last (l:List Int) (x:Int):nth (l++[x]) l.length=x:=by
 unfold nth; simp
def idx (l:List Int) (x:Int):Int:=if x∈l then (l.idxOf x:Nat) else -1
theorem idx_no {l:List Int} {x:Int} (h:x ∉ l):idx l x = -1:=if_neg h
theorem idx_yes {l:List Int} {x:Int} (h:x∈l):idx l x=(l.idxOf x:Nat):=if_pos h
theorem idx_lt {l:List Int} {x:Int}:idx l x<l.length:=by
 unfold idx; split
 ·have:=List.idxOf_lt_length_of_mem (by assumption); omega
 ·omega
theorem idx_ge {l:List Int} {x:Int}:-1≤idx l x:=by unfold idx; split <;> omega
theorem idx_neg {l:List Int} {x:Int}:idx l x<0↔x ∉ l:=by
 unfold idx; split
 ·constructor
  ·intro h; omega
  ·intro h; exact absurd (by assumption) h
 ·constructor
  ·intro _; assumption
  ·intro _; omega
theorem idxOf_at:∀ {l:List Int} {x:Int} {i:Nat},i<l.length→nth l i=x→x ∉ l.take i→l.idxOf x=i
 | [],_,_,h,_,_=>by simp at h
 | a :: l,x,0,_,h,_=>by
   obtain rfl:a=x:=by simpa [nth] using h
   simp
 | a :: l,x,i+1,hi,h,hn=>by
   simp only [List.take_succ_cons,List.mem_cons,not_or] at hn
   have e:=idxOf_at (l:=l) (i:=i) (by simpa using hi) (by simpa [nth] using h) hn.2
   have e2:(a == x)=false:=by simpa using fun e=>hn.1 e.symm
   rw [List.idxOf_cons,e,e2,cond_false]
theorem idx_at {l:List Int} {x:Int} {i:Nat} (hi:i<l.length) (h:nth l i=x) (hn:x ∉ l.take i):idx l x=i:=by
 rw [idx_yes (h ▸ nth_mem hi),idxOf_at hi h hn]
def okP (t:Tab):Prop:=(4≤t.sg∧t.sg≤16)∧(1≤t.st∧t.st≤30)∧1≤t.o.length∧(∀ x∈t.o,0≤x∧x<t.sg)∧t.o.Nodup∧(∀ x∈t.l,0≤x∧x≤t.st)∧t.l.length=t.o.length∧t.f.length=t.o.length
instance (t:Tab):Decidable (okP t):=by unfold okP; infer_instance
def okT (t:Tab):Bool:=decide (okP t)
theorem okT_iff (t:Tab):okT t=true↔okP t:=by unfold okT; rw [decide_eq_true_iff]
def upto (n:Nat):List Int:=(List.range n).map fun i:Nat=>(i:Int)
theorem upto_succ (n:Nat):upto (n+1)=upto n++[(n:Int)]:=by simp [upto,List.range_succ]
theorem mem_upto {n:Nat} {x:Int}:x∈upto n↔0≤x∧x<n:=by
 simp only [upto,List.mem_map,List.mem_range]
 constructor
 ·rintro ⟨i,hi,rfl⟩; omega
 ·rintro ⟨h1,h2⟩; exact ⟨x.toNat,by omega,by omega⟩
def freeTo (o:List Int) (n:Nat):List Int:=(upto n).filter fun x=>decide (x ∉ o)
theorem freeTo_zero (o:List Int):freeTo o 0=[]:=by simp [freeTo,upto]
theorem freeTo_yes {o:List Int} {n:Nat} (h:(n:Int) ∉ o):freeTo o (n+1)=freeTo o n++[(n:Int)]:=by
 simp [freeTo,upto_succ,List.filter_append,h]
theorem freeTo_no {o:List Int} {n:Nat} (h:(n:Int)∈o):freeTo o (n+1)=freeTo o n:=by
 simp [freeTo,upto_succ,List.filter_append,h]
theorem freeTo_len (o:List Int):∀ n,(freeTo o n).length≤n
 | 0=>by simp [freeTo_zero]
 | n+1=>by
   have:=freeTo_len o n
   by_cases h:(n:Int)∈o
   ·rw [freeTo_no h]; omega
   ·rw [freeTo_yes h,List.length_append]; simp; omega
def freeT (t:Tab):List Int:=freeTo t.o t.sg.toNat
theorem mem_freeTo {o:List Int} {n:Nat} {x:Int}:x∈freeTo o n↔(0≤x∧x<n)∧x ∉ o:=by
 simp [freeTo,mem_upto]
theorem upto_nodup:∀ n,(upto n).Nodup
 | 0=>by simp [upto]
 | n+1=>by
   rw [upto_succ,List.nodup_append]
   refine ⟨upto_nodup n,by simp,?_⟩
   intro a ha b hb e
   simp at hb
   subst hb
   rw [mem_upto] at ha
   omega
theorem split_len (p:Int→Bool):∀ l:List Int,(l.filter p).length+(l.filter fun x=>!p x).length=l.length
 | []=>rfl
 | a :: l=>by
   have:=split_len p l
   cases h:p a <;> simp [h] <;> omega
theorem free_len {o:List Int} {n:Nat} (hr:∀ x∈o,0≤x∧x<(n:Int)) (hd:o.Nodup):(freeTo o n).length+o.length=n:=by
 have h1:((upto n).filter fun x=>decide (x∈o)).length=o.length:=by
  apply List.Perm.length_eq
  rw [List.perm_ext_iff_of_nodup ((upto_nodup n).filter _) hd]
  intro x
  rw [List.mem_filter,mem_upto,decide_eq_true_iff]
  exact ⟨fun h=>h.2,fun h=>⟨hr x h,h⟩⟩
 have h2:(upto n).length=n:=by simp [upto]
 have h3:=split_len (fun x=>decide (x∈o)) (upto n)
 have h4:(freeTo o n)=(upto n).filter fun x=>!decide (x∈o):=by
  unfold freeTo; congr 1; funext x; simp
 rw [h4]; omega
def lastN (l:List Int):Int:=nth l (l.length-1)
def roomT (t:Tab):Int:=t.st-lastN t.l+t.st*(t.sg-t.o.length)
def sumTo (l:List Int) (i:Nat):Int:=(l.take i).foldl (· + ·) 0
theorem sumTo_zero (l:List Int):sumTo l 0=0:=rfl
theorem sumTo_succ {l:List Int} {i:Nat} (h:i<l.length):sumTo l (i+1)=sumTo l i+nth l i:=by
 unfold sumTo; rw [take_nth h,List.foldl_append]; rfl
def usedT (t:Tab):Int:=sumTo t.l t.l.length
def lenT (t:Tab) (x:Int):Int:=if idx t.o x<0 then 0 else nth t.l (idx t.o x).toNat
def openedT (t:Tab) (s first:Int):Tab:=⟨t.sg,t.st,t.o++[s],t.l++[0],t.f++[first]⟩
def rollT (t:Tab) (first:Int):Option Tab:=match freeT t with
 | []=>none
 | s :: _=>some (openedT t s first)
def countedT (t:Tab):Tab:=⟨t.sg,t.st,t.o,t.l.set (t.l.length-1) (lastN t.l+1),t.f⟩
def countT (t:Tab):Option Tab:=if lastN t.l=t.st then none else some (countedT t)
def droppedT (t:Tab) (i:Nat):Tab:=⟨t.sg,t.st,t.o.eraseIdx i,t.l.eraseIdx i,t.f.eraseIdx i⟩
def dropT (t:Tab) (x:Int):Option Tab:=if idx t.o x<0∨idx t.o x=t.o.length-1 then none else some (droppedT t (idx t.o x).toNat)
def zeroT:Tab:=⟨0,0,[],[],[]⟩
def newT (sg st first:Int):Tab:=⟨sg,st,[0],[0],[first]⟩
def sizeB (sg st:Int):Bool:=decide ((4≤sg∧sg≤16)∧1≤st∧st≤30)
theorem last_mem {l:List Int} (h:1≤l.length):lastN l∈l:=nth_mem (by omega)
theorem new_ok {sg st first:Int} (h:sizeB sg st=true):okP (newT sg st first):=by
 unfold sizeB at h
 rw [decide_eq_true_iff] at h
 refine ⟨h.1,h.2,by simp [newT],?_,by simp [newT],?_,by simp [newT],by simp [newT]⟩
 ·intro x hx; simp [newT] at hx ⊢; omega
 ·intro x hx; simp [newT] at hx ⊢; omega
theorem free_in {t:Tab} {s:Int} (h:s∈freeT t) (h0:0≤t.sg):0≤s∧s<t.sg∧s ∉ t.o:=by
 unfold freeT at h
 rw [mem_freeTo] at h
 exact ⟨h.1.1,by omega,h.2⟩
theorem opened_ok {t:Tab} {s first:Int} (h:okP t) (hs:s∈freeT t):okP (openedT t s first):=by
 obtain ⟨h1,h2,h3,h4,h5,h6,h7,h8⟩:=h
 have hf:=free_in hs (by omega)
 refine ⟨h1,h2,by simp [openedT],?_,?_,?_,by simp [openedT,h7],by simp [openedT,h8]⟩
 ·intro x hx
  simp [openedT] at hx ⊢
  rcases hx with hx|rfl
  ·exact h4 x hx
  ·omega
 ·simp only [openedT]
  rw [List.nodup_append]
  exact ⟨h5,by simp,fun a ha b hb e=>by simp at hb; subst hb; subst e; exact hf.2.2 ha⟩
 ·intro x hx
  simp [openedT] at hx ⊢
  rcases hx with hx|rfl
  ·exact h6 x hx
  ·omega
theorem count_ok {t u:Tab} (h:okP t) (hu:countT t=some u):okP u:=by
 unfold countT at hu
 split at hu
 ·cases hu
 ·rename_i hn
  injection hu with hu
  subst hu
  obtain ⟨h1,h2,h3,h4,h5,h6,h7,h8⟩:=h
  have hl:=h6 _ (last_mem (l:=t.l) (by omega))
  refine ⟨h1,h2,h3,h4,h5,?_,by simp [countedT,h7],h8⟩
  intro x hx
  simp only [countedT] at hx ⊢
  rcases List.mem_or_eq_of_mem_set hx with hx|rfl
  ·exact h6 x hx
  ·omega
theorem drop_ok {t u:Tab} {x:Int} (h:okP t) (hu:dropT t x=some u):okP u:=by
 unfold dropT at hu
 split at hu
 ·cases hu
 ·rename_i hn
  injection hu with hu
  subst hu
  obtain ⟨h1,h2,h3,h4,h5,h6,h7,h8⟩:=h
  have hi:=idx_lt (l:=t.o) (x:=x)
  have hg:=idx_ge (l:=t.o) (x:=x)
  refine ⟨h1,h2,?_,?_,?_,?_,?_,?_⟩
  ·simp only [droppedT]; rw [List.length_eraseIdx,if_pos (by omega)]; omega
  ·intro y hy; exact h4 y (List.mem_of_mem_eraseIdx hy)
  ·exact h5.sublist (List.eraseIdx_sublist _ _)
  ·intro y hy; exact h6 y (List.mem_of_mem_eraseIdx hy)
  ·simp only [droppedT]; rw [List.length_eraseIdx,List.length_eraseIdx,h7]
  ·simp only [droppedT]; rw [List.length_eraseIdx,List.length_eraseIdx,h8]
def sectorT (slots seg slot:Int):Int:=if 1≤slots∧slots≤30∧0≤seg∧seg≤15∧0≤slot∧slot≤slots then 2+seg*(slots+1)+slot else -1
def tabOf (r:Option Tab):Tab:=r.getD zeroT
def errOf (r:Option Tab) (e:Int):Int:=match r with
 | none=>e
 | some _=>0
open Go.RowKit Go.Lib
set_option linter.unusedVariables false
theorem Ge.trans {a b c:World} (h:Below a.heap.size a b) (k:Below b.heap.size b c):Below a.heap.size a c:=h.trans (k.mono h.size)
theorem bcell {W w1:World} (hb:Below W.heap.size W w1):(∀ b o,b<W.heap.size→w1.cell? ⟨b,o,none⟩=W.cell? ⟨b,o,none⟩)∧(∀ b o,b<W.heap.size→w1.frozen? ⟨b,o,none⟩=W.frozen? ⟨b,o,none⟩) :=
 ⟨fun b o h=>hb.cell (p:=⟨b,o,none⟩) h,fun b o h=>hb.frozen (p:=⟨b,o,none⟩) h⟩
theorem below1 (w:World) (o:Obj):Below w.heap.size w (w.alloc o):=(Below.refl _ _).alloc (Nat.le_refl _) _
theorem below_drawn (w:World):Below w.heap.size w w.drew:=(Below.refl _ _).drew
theorem ret_bool {a b:Bool} (h:a=b):Ending.returned (.bool a)=.returned (.bool b):=by rw [h]
theorem ret_int {k:IntKind} {a b:Int} (h:a=b):Ending.returned (.int k a)=.returned (.int k b):=by rw [h]
structure Sl (κ:IntKind) (W:World) (A:Option Addr) (m:Nat) (l:List Int):Prop where
 len:m=l.length
 cells:CellsIn W A m (fun j=>.int κ (nth l j))
section
variable {κ:IntKind} {W W' : World} {A:Option Addr} {m:Nat} {l:List Int}
theorem Sl.later (h:Sl κ W A m l) (hb:Below W.heap.size W W'):Sl κ W' A m l:=⟨h.len,h.cells.later hb⟩
theorem Sl.nil (κ:IntKind) (W:World):Sl κ W none 0 []:=⟨rfl,fun h=>absurd h (by omega)⟩
end
structure TIn (W:World) (A:Option Addr) (m:Nat) (B:Option Addr) (k:Nat) (C:Option Addr) (n:Nat) (o l f:List Int):Prop where
 a:Sl .i64 W A m o
 b:Sl .i64 W B k l
 c:Sl .u64 W C n f
theorem TIn.later {W W' : World} {A:Option Addr} {m:Nat} {B:Option Addr} {k:Nat} {C:Option Addr} {n:Nat} {o l f:List Int} (h:TIn W A m B k C n o l f) (hb:Below W.heap.size W W'):TIn W' A m B k C n o l f:=⟨h.a.later hb,h.b.later hb,h.c.later hb⟩
theorem TIn.zero (W:World):TIn W none 0 none 0 none 0 [] [] []:=⟨Sl.nil _ _,Sl.nil _ _,Sl.nil _ _⟩
def Blk (w:World) (g:Nat) (t:TypeId) (cs:Array Value):Prop:=w.heap[g]? = some (.cells cs t (0,0))
section
variable {w w' : World} {g:Nat} {t:TypeId} {cs:Array Value}
theorem Blk.lt (h:Blk w g t cs):g<w.heap.size:=(Array.getElem?_eq_some_iff.1 h).1
theorem Blk.cell (h:Blk w g t cs) (i:Nat):w.cell? ⟨g,i,none⟩=cs[i]?:=cell_of_row w g i cs t (0,0) h
theorem Blk.frozen (h:Blk w g t cs) (i:Nat):w.frozen? ⟨g,i,none⟩=false:=by
 unfold Blk at h
 simp [World.frozen?,h]
theorem Blk.new (w:World) (t:TypeId) (cs:Array Value):Blk (w.alloc (.cells cs t)) w.heap.size t cs:=heap_alloc_last w _
theorem Blk.at_ {b:Nat} (w:World) (t:TypeId) (cs:Array Value) (hb:w.heap.size=b):Blk (w.alloc (.cells cs t)) b t cs:=hb ▸ heap_alloc_last w _
theorem Blk.later (h:Blk w g t cs) (hb:Below w.heap.size w w'):Blk w' g t cs:=(hb.block g h.lt).trans h
theorem Blk.row (h:Blk w g t cs) (ds:Array Value):Blk (w.setRow g ds) g t ds:=by
 unfold Blk at h ⊢
 unfold World.setRow
 rw [Array.getElem?_modify,if_pos rfl,h]
 rfl
theorem Blk.far (h:Blk w g t cs) {g' : Nat} (hg:g'≠g) (ds:Array Value):Blk (w.setRow g' ds) g t cs:=by
 unfold Blk at h ⊢
 unfold World.setRow
 rw [Array.getElem?_modify,if_neg hg,h]
theorem row_size (w:World) (g:Nat) (ds:Array Value):(w.setRow g ds).heap.size=w.heap.size:=by unfold World.setRow; simp
theorem below_row {n:Nat} {w0:World} (hb:Below n w0 w) (hg:n≤g) (ds:Array Value):Below n w0 (w.setRow g ds) :=
 ⟨hb.os,hb.tape,hb.output,by rw [row_size]; exact hb.size,fun b hbn=>by
  unfold World.setRow
  rw [Array.getElem?_modify,if_neg (by omega)]
  exact hb.block b hbn⟩
end
def csT (sg st:Int) (A:Option Addr) (m p:Nat) (B:Option Addr) (k q:Nat) (C:Option Addr) (n r:Nat):Array Value:=#[.int .i64 sg,.int .i64 st,.slice A m p,.slice B k q,.slice C n r]
theorem csT_one (sg st:Int) (A:Option Addr) (m p:Nat) (B:Option Addr) (k q:Nat) (C:Option Addr) (n r:Nat):(csT sg st A m p B k q C n r).all (·.oneCell')=true:=by simp [csT,Value.oneCell']
theorem slots_is (st:Int) (b:Bool) (w:World) (hb:decide (1≤st∧st≤30)=b):Calls Tryz.prog 172 #[.int .i64 st] w fun e w'=>e=.returned (.bool b)∧w=w':=by
 subst hb
 by_cases h1:1≤st
 ·have e:decide (1≤st∧st≤30)=decide (st≤30):=by simp [h1]
  rw [e]
  cases hd:decide (st≤30)
  ·have h2:¬ st≤30:=of_decide_eq_false hd
   clear hd e
   go_enter Tryz.func172,Tryz.ntmps172
   go_wp2_with fail
   go_ret
   exact ⟨rfl,rfl⟩
  ·have h2:st≤30:=of_decide_eq_true hd
   clear hd e
   go_enter Tryz.func172,Tryz.ntmps172
   go_wp2_with fail
   go_ret
   exact ⟨rfl,rfl⟩
 ·have e:decide (1≤st∧st≤30)=false:=by simp [h1]
  rw [e]
  have h1' : st<1:=by omega
  clear e h1
  go_enter Tryz.func172,Tryz.ntmps172
  go_wp2_with fail
  go_ret
  exact ⟨rfl,rfl⟩
theorem size_is (sg st:Int) (b:Bool) (w:World) (hb:sizeB sg st=b):Calls Tryz.prog 128 #[.int .i64 sg,.int .i64 st] w fun e w'=>e=.returned (.bool b)∧w=w':=by
 subst hb
 unfold sizeB
 by_cases h1:4≤sg
 case neg =>
  have e:decide ((4≤sg∧sg≤16)∧1≤st∧st≤30)=false:=by simp [h1]
  rw [e]
  have h1' : sg<4:=by omega
  clear e h1
  go_enter Tryz.func128,Tryz.ntmps128
  go_wp2_with fail
  go_ret
  exact ⟨rfl,rfl⟩
 by_cases h2:sg≤16
 case neg =>
  have e:decide ((4≤sg∧sg≤16)∧1≤st∧st≤30)=false:=by simp [h2]
  rw [e]
  have h1' : 16<sg:=by omega
  clear e h2
  go_enter Tryz.func128,Tryz.ntmps128
  go_wp2_with fail
  go_ret
  exact ⟨rfl,rfl⟩
 have e:decide ((4≤sg∧sg≤16)∧1≤st∧st≤30)=decide (1≤st∧st≤30):=by simp [h1,h2]
 rw [e]
 obtain ⟨b,Hb⟩:∃ b,Hid (decide (1≤st∧st≤30)=b):=⟨_,Lib.hid rfl⟩
 rw [Hb.out]
 clear e
 go_enter Tryz.func128,Tryz.ntmps128
 go_wp2_with fail
 refine (slots_is st b _ Hb.out).mono ?_
 rintro e w' ⟨rfl,rfl⟩
 go_wp2_with fail
 go_ret
 exact ⟨rfl,rfl⟩
theorem index_any (A:Option Addr) (m p:Nat) (l:List Int) (x:Int) (w:World) (h:Sl .i64 w A m l) (hm:m≤maxLen) :
 Calls Tryz.prog 178 #[.slice A m p,.int .i64 x] w fun e w'=>e=.returned (.int .i64 (idx l x))∧w=w':=by
 unfold maxLen at hm
 have HL:=Lib.hid h.len
 by_cases hz:m=0
 ·subst hz
  have h1:=List.length_eq_zero_iff.1 h.len.symm
  subst h1
  rw [idx_no (by simp)]
  go_enter Tryz.func178,Tryz.ntmps178
  go_wp2_with fail
  refine wp_loop_rounds 1 ?_
  rw [rounds_succ]
  go_wp2_with fail
  go_ret
  exact ⟨rfl,rfl⟩
 obtain ⟨b,off,rfl,hb,hc⟩:=h.cells (by omega)
 have HC:=Lib.hid hc
 clear hc h
 go_enter Tryz.func178,Tryz.ntmps178
 go_wp2_with fail
 go_loop [8] (fun s8=>∃ i:Nat,i≤m∧s8=.int .i64 i∧Hid (x ∉ l.take i)) (fun s8=>m-(intOf s8).toNat)
 case atStart=>exact ⟨0,by omega,rfl,Lib.hid (by simp)⟩
 case round =>
  obtain ⟨i,hi,rfl,HN⟩:=hrel
  by_cases hlt:i<m
  ·have hlti:(i:Int)<(m:Int):=by omega
   have hil:i<l.length:=by have:=HL.out; omega
   have c1:=HC.out i hlt
   obtain ⟨y,Y⟩:∃ y,Hid (nth l i=y):=⟨_,rfl⟩
   simp only [Y.out] at c1
   by_cases hxy:x=y
   ·have HD:=Lib.hid (idx_at hil (Y.out.trans hxy.symm) HN.out)
    have hq:(x == y)=true:=by simp [hxy]
    clear hxy
    go_wp2_with fail
    go_ret
    exact ⟨ret_int HD.out.symm,rfl⟩
   ·have HN2:Hid (x ∉ l.take (i+1)):=Lib.hid (by rw [take_nth hil,Y.out]; simp; exact ⟨HN.out,hxy⟩)
    have hq:(x == y)=false:=by simp [hxy]
    clear hxy
    go_wp2_with fail
    go_round
    case rel=>exact ⟨i+1,by omega,by go_num,HN2⟩
    case measure=>simp [intOf]; omega
  ·obtain rfl:i=m:=by omega
   have hlti:¬ (i:Int)<(i:Int):=by omega
   have HD:Hid (idx l x = -1):=Lib.hid (idx_no (by have:=HN.out; rw [List.take_of_length_le (by have:=HL.out; omega)] at this; exact this))
   go_wp2_with fail
   go_ret
   exact ⟨ret_int HD.out.symm,rfl⟩
theorem index_is (A:Option Addr) (m p:Nat) (l:List Int) (x y:Int) (w:World) (h:Sl .i64 w A m l) (hm:m≤maxLen) (hy:idx l x=y) :
 Calls Tryz.prog 178 #[.slice A m p,.int .i64 x] w fun e w'=>e=.returned (.int .i64 y)∧w=w':=by
 subst hy; exact index_any A m p l x w h hm
theorem has_is (A:Option Addr) (m p:Nat) (l:List Int) (x:Int) (b:Bool) (w:World) (h:Sl .i64 w A m l) (hm:m≤maxLen) (hb:decide (x∈l)=b) :
 Calls Tryz.prog 187 #[.slice A m p,.int .i64 x] w fun e w'=>e=.returned (.bool b)∧w=w':=by
 obtain ⟨y,Y⟩:∃ y,Hid (idx l x=y):=⟨_,Lib.hid rfl⟩
 have H:=Lib.hid (index_is A m p l x y w h hm Y.out)
 have h2:=idx_neg (l:=l) (x:=x)
 rw [Y.out] at h2
 cases b with
 | true =>
   have hy:0≤y:=by
    have:=of_decide_eq_true hb
    exact Int.not_lt.1 fun hn=>h2.1 hn this
   clear hb h2 h
   go_enter Tryz.func187,Tryz.ntmps187
   go_wp2_with fail
   refine H.out.mono ?_
   rintro e w' ⟨rfl,rfl⟩
   go_wp2_with fail
   go_ret
   exact ⟨rfl,rfl⟩
 | false =>
   have hy:y<0:=h2.2 (of_decide_eq_false hb)
   clear hb h2 h
   go_enter Tryz.func187,Tryz.ntmps187
   go_wp2_with fail
   refine H.out.mono ?_
   rintro e w' ⟨rfl,rfl⟩
   go_wp2_with fail
   go_ret
   exact ⟨ret_bool (decide_eq_false (by omega)),rfl⟩
theorem open_is (sg st:Int) (A:Option Addr) (m p:Nat) (B:Option Addr) (k q:Nat) (C:Option Addr) (n r:Nat) (x:Int) (w:World) (hm:m≤maxLen) (hx:(m:Int)-1=x) :
 Calls Tryz.prog 132 #[.agg #[.int .i64 sg,.int .i64 st,.slice A m p,.slice B k q,.slice C n r]] w fun e w'=>e=.returned (.int .i64 x)∧Below w.heap.size w w':=by
 unfold maxLen at hm
 have B:=Lib.hid (below1 w (.cells #[.int .i64 sg,.int .i64 st,.slice A m p,.slice B k q,.slice C n r] 45))
 have HX:=Lib.hid hx
 clear hx
 go_enter Tryz.func132,Tryz.ntmps132
 go_wp2_with fail
 go_ret
 exact ⟨ret_int HX.out,B.out⟩
open Go.RowKit Go.Lib
set_option linter.unusedVariables false
def orderB (o:List Int) (sg:Int):Bool:=decide (1≤o.length∧(∀ x∈o,0≤x∧x<sg)∧o.Nodup)
def lensB (l:List Int) (st:Int):Bool:=decide (∀ x∈l,0≤x∧x≤st)
theorem okT_parts (t:Tab):okT t=(sizeB t.sg t.st && (orderB t.o t.sg && (lensB t.l t.st && (decide (t.l.length=t.o.length) && decide (t.f.length=t.o.length))))):=by
 rw [Bool.eq_iff_iff,okT_iff]
 unfold okP sizeB orderB lensB
 simp only [Bool.and_eq_true,decide_eq_true_iff]
 constructor
 ·rintro ⟨a,b,c,d,e,f,g,h⟩; exact ⟨⟨a,b⟩,⟨c,d,e⟩,f,g,h⟩
 ·rintro ⟨⟨a,b⟩,⟨c,d,e⟩,f,g,h⟩; exact ⟨a,b,c,d,e,f,g,h⟩
structure Good (o:List Int) (sg:Int) (i:Nat):Prop where
 po:∀ x∈o.take i,0≤x∧x<sg
 pd:(o.take i).Nodup
theorem Good.next {o:List Int} {sg:Int} {i:Nat} (h:Good o sg i) (ho:i<o.length) (h1:0≤nth o i∧nth o i<sg) (h3:nth o i ∉ o.take i):Good o sg (i+1):=by
 refine ⟨?_,?_⟩
 ·intro x hx
  rw [take_nth ho,List.mem_append,List.mem_singleton] at hx
  rcases hx with hx|rfl
  ·exact h.po x hx
  ·exact h1
 ·rw [take_nth ho,List.nodup_append]
  exact ⟨h.pd,by simp,fun a ha b hb e=>by rw [List.mem_singleton] at hb; subst hb; subst e; exact h3 ha⟩
theorem not_nodup {o:List Int} {i:Nat} (ho:i<o.length) (h:nth o i∈o.take i):¬ o.Nodup:=by
 intro hd
 have h2:(o.take (i+1)).Nodup:=hd.sublist (List.take_sublist _ _)
 rw [take_nth ho,List.nodup_append] at h2
 exact h2.2.2 _ h _ (by simp) rfl
theorem Sl.head {κ:IntKind} {W:World} {b off m i:Nat} {l:List Int} (h:Sl κ W (some ⟨b,off,none⟩) m l) (hi:i≤m):Sl κ W (some ⟨b,off,none⟩) i (l.take i):=by
 refine ⟨by rw [List.length_take,← h.len]; omega,fun hn=>?_⟩
 obtain ⟨b',o',e,hlt,hc⟩:=h.cells (by omega)
 injection e with e
 injection e with e1 e2
 subst e1 e2
 exact ⟨_,_,rfl,hlt,fun j hj=>by rw [hc j (by omega)]; simp only [nth_take hj]⟩
set_option maxHeartbeats 1000000 in
theorem order_main (b off m p:Nat) (o:List Int) (sg:Int) (w:World) (h:Sl .i64 w (some ⟨b,off,none⟩) m o) (h0:0<m) (hm:m≤maxLen) (hp:m≤p) :
 Calls Tryz.prog 156 #[.slice (some ⟨b,off,none⟩) m p,.int .i64 sg] w fun e w'=>e=.returned (.bool (orderB o sg))∧w=w':=by
 have HM:=Lib.hid hm
 unfold maxLen at hm
 have HL:=Lib.hid h.len
 have HS:=Lib.hid h
 obtain ⟨b',off',e,hb,hc⟩:=h.cells h0
 injection e with e
 injection e with e1 e2
 subst e1 e2
 have HC:=Lib.hid hc
 clear hc h
 go_enter Tryz.func156,Tryz.ntmps156
 go_wp2_with fail
 go_loop [9] (fun s9=>∃ i:Nat,i≤m∧s9=.int .i64 i∧Hid (Good o sg i)) (fun s9=>m-(intOf s9).toNat)
 case atStart=>exact ⟨0,by omega,rfl,Lib.hid ⟨by simp,by simp⟩⟩
 case round =>
  obtain ⟨i,hi,rfl,HG⟩:=hrel
  by_cases hlt:i<m
  ·have hlti:(i:Int)<(m:Int):=by omega
   have hip:(i:Int)≤(p:Int):=by omega
   have hol:i<o.length:=by have:=HL.out; omega
   have c1:=HC.out i hlt
   obtain ⟨y,Y⟩:∃ y,Hid (nth o i=y):=⟨_,rfl⟩
   simp only [Y.out] at c1
   have no:¬ (1≤o.length∧(∀ x∈o,0≤x∧x<sg)∧o.Nodup)→orderB o sg=false:=fun h=>by unfold orderB; rw [decide_eq_false_iff_not]; exact h
   have B0:Hid ((y<0∨sg≤y)→orderB o sg=false):=Lib.hid fun hx=>no fun hs=>by
    have:=hs.2.1 _ (nth_mem hol)
    rw [Y.out] at this
    omega
   have B1:Hid (y∈o.take i→orderB o sg=false):=Lib.hid fun hx=>no fun hs=>not_nodup hol (by rw [Y.out]; exact hx) hs.2.2
   clear no
   by_cases hy0:y<0
   ·go_wp2_with fail
    go_ret
    exact ⟨ret_bool (B0.out (.inl hy0)).symm,rfl⟩
   by_cases hy1:sg≤y
   ·go_wp2_with fail
    go_ret
    exact ⟨ret_bool (B0.out (.inr hy1)).symm,rfl⟩
   obtain ⟨c,HCn⟩:∃ c,Hid (decide (y∈o.take i)=c):=⟨_,Lib.hid rfl⟩
   have K:=Lib.hid (has_is (some ⟨b,off,none⟩) i p (o.take i) y c w (HS.out.head hi) (Nat.le_trans hi HM.out) HCn.out)
   cases c with
   | true =>
     go_wp2_with fail
     refine K.out.mono ?_
     rintro e w' ⟨rfl,rfl⟩
     go_wp2_with fail
     go_ret
     exact ⟨ret_bool (B1.out (of_decide_eq_true HCn.out)).symm,rfl⟩
   | false =>
     have HG2:Hid (Good o sg (i+1)):=Lib.hid (HG.out.next hol (by rw [Y.out]; omega) (by rw [Y.out]; exact of_decide_eq_false HCn.out))
     go_wp2_with fail
     refine K.out.mono ?_
     rintro e w' ⟨rfl,rfl⟩
     go_wp2_with fail
     go_round
     case rel=>exact ⟨i+1,by omega,by go_num,HG2⟩
     case measure=>simp [intOf]; omega
  ·obtain rfl:i=m:=by omega
   have hlti:¬ (i:Int)<(i:Int):=by omega
   have HD:Hid (orderB o sg=true):=Lib.hid (by
    have g:=HG.out
    have hl:=HL.out
    unfold orderB
    rw [decide_eq_true_iff]
    have e:o.take i=o:=List.take_of_length_le (by omega)
    exact ⟨by omega,by rw [← e]; exact g.po,by rw [← e]; exact g.pd⟩)
   have hpos:0<(i:Int):=by omega
   go_wp2_with fail
   go_ret
   exact ⟨ret_bool HD.out.symm,rfl⟩
theorem order_is (A:Option Addr) (m p:Nat) (o:List Int) (sg:Int) (b:Bool) (w:World) (h:Sl .i64 w A m o) (hm:m≤maxLen) (hp:m≤p) (hb:orderB o sg=b) :
 Calls Tryz.prog 156 #[.slice A m p,.int .i64 sg] w fun e w'=>e=.returned (.bool b)∧w=w':=by
 subst hb
 by_cases hz:m=0
 ·subst hz
  have h1:=List.length_eq_zero_iff.1 h.len.symm
  subst h1
  have e:orderB [] sg=false:=by simp [orderB]
  rw [e]
  go_enter Tryz.func156,Tryz.ntmps156
  go_wp2_with fail
  refine wp_loop_rounds 1 ?_
  rw [rounds_succ]
  go_wp2_with fail
  go_ret
  exact ⟨rfl,rfl⟩
 obtain ⟨b,off,rfl,hb,hc⟩:=h.cells (by omega)
 exact order_main b off m p o sg w h (by omega) hm hp
set_option maxHeartbeats 1000000 in
theorem lens_is (A:Option Addr) (m p:Nat) (l:List Int) (st:Int) (b:Bool) (w:World) (h:Sl .i64 w A m l) (hm:m≤maxLen) (hb:lensB l st=b) :
 Calls Tryz.prog 157 #[.slice A m p,.int .i64 st] w fun e w'=>e=.returned (.bool b)∧w=w':=by
 subst hb
 unfold maxLen at hm
 have HL:=Lib.hid h.len
 by_cases hz:m=0
 ·subst hz
  have h1:=List.length_eq_zero_iff.1 h.len.symm
  subst h1
  have e:lensB [] st=true:=by simp [lensB]
  rw [e]
  go_enter Tryz.func157,Tryz.ntmps157
  go_wp2_with fail
  refine wp_loop_rounds 1 ?_
  rw [rounds_succ]
  go_wp2_with fail
  go_ret
  exact ⟨rfl,rfl⟩
 obtain ⟨b,off,rfl,hb,hc⟩:=h.cells (by omega)
 have HC:=Lib.hid hc
 clear hc h
 go_enter Tryz.func157,Tryz.ntmps157
 go_wp2_with fail
 go_loop [9] (fun s9=>∃ i:Nat,i≤m∧s9=.int .i64 i∧Hid (∀ x∈l.take i,0≤x∧x≤st)) (fun s9=>m-(intOf s9).toNat)
 case atStart=>exact ⟨0,by omega,rfl,Lib.hid (by simp)⟩
 case round =>
  obtain ⟨i,hi,rfl,HG⟩:=hrel
  by_cases hlt:i<m
  ·have hlti:(i:Int)<(m:Int):=by omega
   have hil:i<l.length:=by have:=HL.out; omega
   have c1:=HC.out i hlt
   obtain ⟨y,Y⟩:∃ y,Hid (nth l i=y):=⟨_,rfl⟩
   simp only [Y.out] at c1
   have B0:Hid ((y<0∨st<y)→lensB l st=false):=Lib.hid fun hx=>by
    unfold lensB
    rw [decide_eq_false_iff_not]
    intro hs
    have:=hs _ (nth_mem hil)
    rw [Y.out] at this
    omega
   by_cases hy0:y<0
   ·go_wp2_with fail
    go_ret
    exact ⟨ret_bool (B0.out (.inl hy0)).symm,rfl⟩
   by_cases hy1:st<y
   ·go_wp2_with fail
    go_ret
    exact ⟨ret_bool (B0.out (.inr hy1)).symm,rfl⟩
   have HG2:Hid (∀ x∈l.take (i+1),0≤x∧x≤st):=Lib.hid (by
    intro x hx
    rw [take_nth hil,List.mem_append,List.mem_singleton,Y.out] at hx
    rcases hx with hx|rfl
    ·exact HG.out x hx
    ·omega)
   go_wp2_with fail
   go_round
   case rel=>exact ⟨i+1,by omega,by go_num,HG2⟩
   case measure=>simp [intOf]; omega
  ·obtain rfl:i=m:=by omega
   have hlti:¬ (i:Int)<(i:Int):=by omega
   have HD:Hid (lensB l st=true):=Lib.hid (by
    have g:=HG.out
    unfold lensB
    rw [decide_eq_true_iff]
    rw [List.take_of_length_le (by have:=HL.out; omega)] at g
    exact g)
   go_wp2_with fail
   go_ret
   exact ⟨ret_bool HD.out.symm,rfl⟩
set_option maxHeartbeats 2000000 in
theorem right_is (sg st:Int) (A:Option Addr) (m p:Nat) (B:Option Addr) (k q:Nat) (C:Option Addr) (n r:Nat) (o l f:List Int) (b:Bool) (w:World) (h:TIn w A m B k C n o l f) (hm:m≤maxLen) (hk:k≤maxLen) (hn:n≤maxLen) (hp:m≤p) (hb:okT ⟨sg,st,o,l,f⟩=b) :
 Calls Tryz.prog 111 #[.agg #[.int .i64 sg,.int .i64 st,.slice A m p,.slice B k q,.slice C n r]] w fun e w'=>e=.returned (.bool b)∧Below w.heap.size w w':=by
 subst hb
 rw [okT_parts]
 simp only
 have HB:=Lib.hid (below1 w (.cells #[.int .i64 sg,.int .i64 st,.slice A m p,.slice B k q,.slice C n r] 45))
 have h1:=h.later (below1 w (.cells #[.int .i64 sg,.int .i64 st,.slice A m p,.slice B k q,.slice C n r] 45))
 rw [← h.a.len,← h.b.len,← h.c.len]
 obtain ⟨b1,H1⟩:∃ b1,Hid (sizeB sg st=b1):=⟨_,Lib.hid rfl⟩
 obtain ⟨b2,H2⟩:∃ b2,Hid (orderB o sg=b2):=⟨_,Lib.hid rfl⟩
 obtain ⟨b3,H3⟩:∃ b3,Hid (lensB l st=b3):=⟨_,Lib.hid rfl⟩
 rw [H1.out,H2.out,H3.out]
 have K2:=Lib.hid (order_is A m p o sg b2 _ h1.a hm hp H2.out)
 have K3:=Lib.hid (lens_is B k q l st b3 _ h1.b hk H3.out)
 clear h h1
 unfold maxLen at hm hk hn
 cases b1 with
 | false =>
   go_enter Tryz.func111,Tryz.ntmps111
   go_wp2_with fail
   refine (size_is sg st _ _ H1.out).mono ?_
   rintro e w' ⟨rfl,rfl⟩
   go_wp2_with fail
   go_ret
   exact ⟨rfl,HB.out⟩
 | true =>
 cases b2 with
 | false =>
   go_enter Tryz.func111,Tryz.ntmps111
   go_wp2_with fail
   refine (size_is sg st _ _ H1.out).mono ?_
   rintro e w' ⟨rfl,rfl⟩
   go_wp2_with fail
   refine K2.out.mono ?_
   rintro e w' ⟨rfl,rfl⟩
   go_wp2_with fail
   go_ret
   exact ⟨rfl,HB.out⟩
 | true =>
 cases b3 with
 | false =>
   go_enter Tryz.func111,Tryz.ntmps111
   go_wp2_with fail
   refine (size_is sg st _ _ H1.out).mono ?_
   rintro e w' ⟨rfl,rfl⟩
   go_wp2_with fail
   refine K2.out.mono ?_
   rintro e w' ⟨rfl,rfl⟩
   go_wp2_with fail
   refine K3.out.mono ?_
   rintro e w' ⟨rfl,rfl⟩
   go_wp2_with fail
   go_ret
   exact ⟨rfl,HB.out⟩
 | true =>
 have E:Hid ((true && (true && (true && (decide (k=m) && decide (n=m)))))=(decide (k=m) && decide (n=m))):=Lib.hid (by simp)
 rw [E.out]
 clear E
 by_cases e1:k=m
 case neg =>
  have q1:((k:Int) == (m:Int))=false:=by simp; omega
  have HD:Hid ((decide (k=m) && decide (n=m))=false):=Lib.hid (by simp [e1])
  rw [HD.out]
  clear e1
  go_enter Tryz.func111,Tryz.ntmps111
  go_wp2_with fail
  refine (size_is sg st _ _ H1.out).mono ?_
  rintro e w' ⟨rfl,rfl⟩
  go_wp2_with fail
  refine K2.out.mono ?_
  rintro e w' ⟨rfl,rfl⟩
  go_wp2_with fail
  refine K3.out.mono ?_
  rintro e w' ⟨rfl,rfl⟩
  go_wp2_with fail
  go_ret
  exact ⟨rfl,HB.out⟩
 subst e1
 obtain ⟨c,HCc⟩:∃ c,Hid (((n:Int) == (k:Int))=c):=⟨_,Lib.hid rfl⟩
 have HD:Hid ((decide (k=k) && decide (n=k))=c):=Lib.hid (by rw [← HCc.out,decide_eq_true rfl,Bool.true_and,Bool.eq_iff_iff,decide_eq_true_iff,beq_iff_eq]; omega)
 rw [HD.out]
 have q0:((k:Int) == (k:Int))=true:=by simp
 have q1:=HCc.out
 go_enter Tryz.func111,Tryz.ntmps111
 go_wp2_with fail
 refine (size_is sg st _ _ H1.out).mono ?_
 rintro e w' ⟨rfl,rfl⟩
 go_wp2_with fail
 refine K2.out.mono ?_
 rintro e w' ⟨rfl,rfl⟩
 go_wp2_with fail
 refine K3.out.mono ?_
 rintro e w' ⟨rfl,rfl⟩
 go_wp2_with fail
 go_ret
 exact ⟨rfl,HB.out⟩
open Go.RowKit Go.Lib
set_option linter.unusedVariables false
structure Its (w:World) (L:List (Nat × TypeId × Array Value)) (M:List (IntKind × Option Addr × Nat × List Int)) (W:World):Prop where
 b:Below w.heap.size w W
 k:∀ x∈L,Blk W x.1 x.2.1 x.2.2
 s:∀ y∈M,Sl y.1 W y.2.1 y.2.2.1 y.2.2.2
section
variable {w W W' : World} {L:List (Nat × TypeId × Array Value)} {M:List (IntKind × Option Addr × Nat × List Int)}
theorem Its.later (h:Its w L M W) (hb:Below W.heap.size W W'):Its w L M W':=⟨Ge.trans h.b hb,fun x hx=>(h.k x hx).later hb,fun y hy=>(h.s y hy).later hb⟩
theorem Its.drawn (h:Its w L M W):Its w L M { W with drawn:=W.drawn+1 }:=h.later (below_drawn W)
theorem Its.at_ (h:Its w L M W) {x:Nat × TypeId × Array Value} (i:Nat) (hi:L[i]? = some x):Blk W x.1 x.2.1 x.2.2:=h.k x (List.mem_of_getElem? hi)
theorem Its.sl (h:Its w L M W) {y:IntKind × Option Addr × Nat × List Int} (i:Nat) (hi:M[i]? = some y):Sl y.1 W y.2.1 y.2.2.1 y.2.2.2:=h.s y (List.mem_of_getElem? hi)
theorem Its.nil (h:Below w.heap.size w W):Its w [] [] W:=⟨h,(fun x hx=>by cases hx),(fun y hy=>by cases hy)⟩
theorem Its.cons (h:Its w L M W) {b:Nat} {t:TypeId} {cs:Array Value} (K:Blk W b t cs):Its w ((b,t,cs) :: L) M W :=
 ⟨h.b,(fun x hx=>by rcases List.mem_cons.1 hx with rfl|hx; exact K; exact h.k x hx),h.s⟩
theorem Its.tab (h:Its w L M W) {A:Option Addr} {m:Nat} {B:Option Addr} {k:Nat} {C:Option Addr} {n:Nat} {o l f:List Int} (i:Nat)
 (h0:M[i]? = some (.i64,A,m,o)) (h1:M[i+1]? = some (.i64,B,k,l)) (h2:M[i+2]? = some (.u64,C,n,f)):TIn W A m B k C n o l f:=⟨h.sl i h0,h.sl (i+1) h1,h.sl (i+2) h2⟩
theorem its_ge {P:Program} {f:FuncId} {args:Array Value} {x:Value} (h:Its w L M W) (c:Calls P f args W fun e' w'=>e' = .returned x∧Below W.heap.size W w') :
 Calls P f args W fun e' w'=>e' = .returned x∧Its w L M w' :=
 c.mono fun _ _ ⟨he,hb⟩=>⟨he,h.later hb⟩
end
set_option maxHeartbeats 1000000 in
theorem in_is (sg st:Int) (A:Option Addr) (m p:Nat) (B:Option Addr) (k q:Nat) (C:Option Addr) (n r:Nat) (o l f:List Int) (x y:Int) (w:World) (h:TIn w A m B k C n o l f) (hm:m≤maxLen) (hy:idx o x=y) :
 Calls Tryz.prog 91 #[.agg #[.int .i64 sg,.int .i64 st,.slice A m p,.slice B k q,.slice C n r],.int .i64 x] w fun e w'=>e=.returned (.int .i64 y)∧Below w.heap.size w w':=by
 unfold maxLen at hm
 have HB:=Lib.hid (below1 w (.cells #[.int .i64 sg,.int .i64 st,.slice A m p,.slice B k q,.slice C n r] 53))
 have HL:=Lib.hid h.a.len
 have HY:=Lib.hid hy
 clear hy
 by_cases hz:m=0
 ·subst hz
  have h1:=List.length_eq_zero_iff.1 h.a.len.symm
  subst h1
  obtain rfl:y = -1:=by rw [← HY.out,idx_no (by simp)]
  go_enter Tryz.func91,Tryz.ntmps91
  go_wp2_with fail
  refine wp_loop_rounds 1 ?_
  rw [rounds_succ]
  go_wp2_with fail
  go_ret
  exact ⟨rfl,HB.out⟩
 obtain ⟨b,off,rfl,hb,hc⟩:=(h.a.later (below1 w (.cells #[.int .i64 sg,.int .i64 st,.slice A m p,.slice B k q,.slice C n r] 53))).cells (by omega)
 have HC:=Lib.hid hc
 clear hc h
 go_enter Tryz.func91,Tryz.ntmps91
 go_wp2_with fail
 go_loop [5] (fun s5=>∃ i:Nat,i≤m∧s5=.int .i64 i∧Hid (x ∉ o.take i)) (fun s5=>m-(intOf s5).toNat)
 case atStart=>exact ⟨0,by omega,rfl,Lib.hid (by simp)⟩
 case round =>
  obtain ⟨i,hi,rfl,HN⟩:=hrel
  by_cases hlt:i<m
  ·have hlti:(i:Int)<(m:Int):=by omega
   have hil:i<o.length:=by have:=HL.out; omega
   have c1:=HC.out i hlt
   obtain ⟨z,Y⟩:∃ z,Hid (nth o i=z):=⟨_,rfl⟩
   simp only [Y.out] at c1
   by_cases hxy:z=x
   ·have HD:Hid ((i:Int)=y):=Lib.hid ((idx_at hil (Y.out.trans hxy) HN.out).symm.trans HY.out)
    have hq:(z == x)=true:=by simp [hxy]
    clear hxy
    go_wp2_with fail
    go_ret
    exact ⟨ret_int HD.out,HB.out⟩
   ·have HN2:Hid (x ∉ o.take (i+1)):=Lib.hid (by rw [take_nth hil,Y.out]; simp; exact ⟨HN.out,fun e=>hxy e.symm⟩)
    have hq:(z == x)=false:=by simp [hxy]
    clear hxy
    go_wp2_with fail
    go_round
    case rel=>exact ⟨i+1,by omega,by go_num,HN2⟩
    case measure=>simp [intOf]; omega
  ·obtain rfl:i=m:=by omega
   have hlti:¬ (i:Int)<(i:Int):=by omega
   have HD:Hid (-1=y):=Lib.hid ((idx_no (by have:=HN.out; rw [List.take_of_length_le (by have:=HL.out; omega)] at this; exact this)).symm.trans HY.out)
   go_wp2_with fail
   go_ret
   exact ⟨ret_int HD.out,HB.out⟩
theorem len_is (sg st:Int) (A:Option Addr) (m p:Nat) (B:Option Addr) (k q:Nat) (C:Option Addr) (n r:Nat) (o l f:List Int) (x y:Int) (w:World) (h:TIn w A m B k C n o l f) (hm:m≤maxLen) (hk:l.length=o.length) (hy:lenT ⟨sg,st,o,l,f⟩ x=y) :
 Calls Tryz.prog 145 #[.agg #[.int .i64 sg,.int .i64 st,.slice A m p,.slice B k q,.slice C n r],.int .i64 x] w fun e w'=>e=.returned (.int .i64 y)∧Below w.heap.size w w':=by
 have HB:=Lib.hid (below1 w (.cells #[.int .i64 sg,.int .i64 st,.slice A m p,.slice B k q,.slice C n r] 45))
 have h1:=h.later (below1 w (.cells #[.int .i64 sg,.int .i64 st,.slice A m p,.slice B k q,.slice C n r] 45))
 obtain ⟨i,HI⟩:∃ i,Hid (idx o x=i):=⟨_,Lib.hid rfl⟩
 have K:=Lib.hid (index_is A m p o x i _ h1.a hm HI.out)
 unfold lenT at hy
 simp only [HI.out] at hy
 have hlt:=idx_lt (l:=o) (x:=x)
 rw [HI.out] at hlt
 by_cases hi:i<0
 ·rw [if_pos hi] at hy
  obtain rfl:0=y:=hy
  clear hlt hk h1 h
  go_enter Tryz.func145,Tryz.ntmps145
  go_wp2_with fail
  refine K.out.mono ?_
  rintro e w' ⟨rfl,rfl⟩
  go_wp2_with fail
  go_ret
  exact ⟨rfl,HB.out⟩
 ·rw [if_neg hi] at hy
  obtain ⟨j,rfl⟩:=Int.eq_ofNat_of_zero_le (by omega:0≤i)
  obtain ⟨b,off,rfl,hb,hc⟩:=h1.b.cells (by have:=h.b.len; omega)
  have hj:j<k:=by have:=h.b.len; omega
  have hji:(j:Int)<(k:Int):=by omega
  have c1:=hc j hj
  have e1:nth l j=y:=by simpa using hy
  simp only [e1] at c1
  clear hy hlt hk h1 h hc e1
  go_enter Tryz.func145,Tryz.ntmps145
  go_wp2_with fail
  refine K.out.mono ?_
  rintro e w' ⟨rfl,rfl⟩
  go_wp2_with fail
  go_ret
  exact ⟨rfl,HB.out⟩
structure Small (l:List Int):Prop where
 len:l.length≤20
 lo:∀ x∈l,0≤x∧x≤30
theorem sum_bd {l:List Int} (h:Small l):∀ i,i≤l.length→0≤sumTo l i∧sumTo l i≤30*i
 | 0,_=>⟨by rw [sumTo_zero]; omega,by rw [sumTo_zero]; omega⟩
 | i+1,hi=>by
   have:=sum_bd h i (by omega)
   have h2:=h.lo _ (nth_mem (l:=l) (i:=i) (by omega))
   rw [sumTo_succ (by omega)]
   omega
set_option maxHeartbeats 1000000 in
theorem rused_is (sg st:Int) (A:Option Addr) (m p:Nat) (B:Option Addr) (k q:Nat) (C:Option Addr) (n r:Nat) (o l f:List Int) (y:Int) (w:World) (h:TIn w A m B k C n o l f) (hs:Small l) (hy:usedT ⟨sg,st,o,l,f⟩=y) :
 Calls Tryz.prog 40 #[.agg #[.int .i64 sg,.int .i64 st,.slice A m p,.slice B k q,.slice C n r]] w fun e w'=>e=.returned (.int .i64 y)∧Below w.heap.size w w':=by
 have HB:=Lib.hid (below1 w (.cells #[.int .i64 sg,.int .i64 st,.slice A m p,.slice B k q,.slice C n r] 53))
 have HL:=Lib.hid h.b.len
 have HY:Hid (sumTo l l.length=y):=Lib.hid hy
 have HS:=Lib.hid hs
 have hk:k≤20:=by have:=h.b.len; have:=hs.len; omega
 clear hy
 by_cases hz:k=0
 ·subst hz
  have h1:=List.length_eq_zero_iff.1 h.b.len.symm
  subst h1
  obtain rfl:0=y:=HY.out
  go_enter Tryz.func40,Tryz.ntmps40
  go_wp2_with fail
  refine wp_loop_rounds 1 ?_
  rw [rounds_succ]
  go_wp2_with fail
  go_ret
  exact ⟨rfl,HB.out⟩
 obtain ⟨b,off,rfl,hb,hc⟩:=(h.b.later (below1 w (.cells #[.int .i64 sg,.int .i64 st,.slice A m p,.slice B k q,.slice C n r] 53))).cells (by omega)
 have HC:=Lib.hid hc
 clear hc h hs
 go_enter Tryz.func40,Tryz.ntmps40
 go_wp2_with fail
 go_loop [3,4] (fun s3 s4=>∃ i:Nat,∃ z:Int,i≤k∧s4=.int .i64 i∧s3=.int .i64 z∧Hid (sumTo l i=z)) (fun _ s4=>k-(intOf s4).toNat)
 case atStart=>exact ⟨0,0,by omega,rfl,rfl,Lib.hid rfl⟩
 case round =>
  obtain ⟨i,z,hi,rfl,rfl,HZ⟩:=hrel
  have bd:=sum_bd HS.out i (by have:=HL.out; omega)
  rw [HZ.out] at bd
  by_cases hlt:i<k
  ·have hlti:(i:Int)<(k:Int):=by omega
   have hil:i<l.length:=by have:=HL.out; omega
   have c1:=HC.out i hlt
   have bx:=HS.out.lo _ (nth_mem hil)
   obtain ⟨x,Y⟩:∃ x,Hid (nth l i=x):=⟨_,rfl⟩
   simp only [Y.out] at c1 bx
   have HZ2:Hid (sumTo l (i+1)=z+x):=Lib.hid (by rw [sumTo_succ hil,HZ.out,Y.out])
   have b0:0≤z:=bd.1
   have b1:z≤600:=by omega
   have b2:0≤x:=bx.1
   have b3:x≤30:=bx.2
   clear bd bx
   go_wp2_with fail
   go_round
   case rel=>exact ⟨i+1,z+x,by omega,by go_num,by go_num,HZ2⟩
   case measure=>simp [intOf]; omega
  ·obtain rfl:i=k:=by omega
   have hlti:¬ (i:Int)<(i:Int):=by omega
   have HD:Hid (z=y):=Lib.hid (by rw [← HZ.out,← HY.out,HL.out])
   clear bd
   go_wp2_with fail
   go_ret
   exact ⟨ret_int HD.out,HB.out⟩
open Go.RowKit Go.Lib
set_option linter.unusedVariables false
theorem info_of {P:Program} {e:TypeId} {z:Value} {n b:Nat} (h:(P.info? e).map (fun i=>(i.zero,i.size,i.bytes))=some (some z,n,b)):∃ i,P.info? e=some i∧i.zero=some z∧i.size=n∧i.bytes=b:=by
 obtain ⟨i,hi,hzz⟩:=Option.map_eq_some_iff.1 h
 simp only [Prod.mk.injEq] at hzz
 exact ⟨i,hi,hzz.1,hzz.2.1,hzz.2.2⟩
theorem infoI:(Tryz.prog.info? 3).map (fun i=>(i.zero,i.size,i.bytes))=some (some (.int .i64 0),1,8):=by kernel_rfl
theorem infoU:(Tryz.prog.info? 38).map (fun i=>(i.zero,i.size,i.bytes))=some (some (.int .u64 0),1,8):=by kernel_rfl
def iv (κ:IntKind) (l:List Int):List Value:=l.map fun x=>.int κ x
theorem iv_snoc (κ:IntKind) (l:List Int) (x:Int):iv κ l++[.int κ x]=iv κ (l++[x]):=by simp [iv]
theorem iv_len (κ:IntKind) (l:List Int):(iv κ l).length=l.length:=by simp [iv]
theorem iv_at (κ:IntKind) {l:List Int} {j:Nat} (h:j<l.length):(iv κ l)[j]? = some (.int κ (nth l j)):=by
 unfold iv
 rw [List.getElem?_map,List.getElem?_eq_getElem h,nth_lt h]
 rfl
theorem iv_one (κ:IntKind) (l:List Int):∀ u∈iv κ l,u.oneCell' = true:=by
 intro u hu
 obtain ⟨x,_,rfl⟩:=List.mem_map.1 hu
 rfl
def ob (A:Option Addr):Option Nat:=A.map (·.block)
theorem ob_eq (A:Option Addr) (m p:Nat):(Value.slice A m p).ownBlock=ob A:=by cases A <;> rfl
theorem own_slice {w:World} {base:Nat} {e:TypeId} {size n:Nat} {v:Value} {xs:List Value} (ho:w.ownsRow base e size v n xs):∃ A c,v=.slice A n c:=by
 rcases ho.2 with ⟨rfl,rfl⟩ | ⟨g,cap,cur,rfl,_⟩
 ·exact ⟨none,0,rfl⟩
 ·exact ⟨_,_,rfl⟩
section
variable {κ:IntKind} {e:TypeId} {w w' : World} {base m p:Nat} {A:Option Addr} {l:List Int}
theorem own_sl (ho:w.ownsRow base e 1 (.slice A m p) m (iv κ l)):Sl κ w A m l:=by
 have hl:m=l.length:=by have:=ho.1; rw [iv_len] at this; omega
 refine ⟨hl,fun hn=>?_⟩
 rcases ho.2 with ⟨_,h0⟩ | ⟨g,cap,cur,he,hb,hg,hc⟩
 ·omega
 ·injection he with he
  subst he
  refine ⟨g,0,rfl,(Array.getElem?_eq_some_iff.1 hg).1,fun j hj=>?_⟩
  have:=ho.cells (g:=g) rfl j (.int κ (nth l j)) (iv_at κ (by omega))
  rw [Addr.add_mid] at this
  exact this
theorem own_later {base:Nat} {e:TypeId} {size n:Nat} {v:Value} {xs:List Value} (ho:w.ownsRow base e size v n xs) (hb:Below w.heap.size w w'):w'.ownsRow base e size v n xs:=by
 refine ⟨ho.1,?_⟩
 rcases ho.2 with h | ⟨g,cap,cur,he,hbg,hg,hc⟩
 ·exact .inl h
 ·exact .inr ⟨g,cap,cur,he,hbg,(hb.block g (Array.getElem?_eq_some_iff.1 hg).1).trans hg,hc⟩
theorem own_base {base base' : Nat} {e:TypeId} {size n:Nat} {v:Value} {xs:List Value} (ho:w.ownsRow base e size v n xs) (h:base'≤base):w.ownsRow base' e size v n xs:=by
 refine ⟨ho.1,?_⟩
 rcases ho.2 with h0 | ⟨g,cap,cur,he,hbg,hg,hc⟩
 ·exact .inl h0
 ·exact .inr ⟨g,cap,cur,he,by omega,hg,hc⟩
theorem own_ne {base base' : Nat} {e e' : TypeId} {size size' n n' : Nat} {v v' : Value} {xs xs' : List Value} (h:w.ownsRow base e size v n xs) (h' : w.ownsRow base' e' size' v' n' xs') (hne:e≠e'):∀ g,v.ownBlock=some g→v'.ownBlock≠some g:=by
 intro g hg hg'
 rcases h.2 with ⟨rfl,_⟩ | ⟨g1,_,_,rfl,_,h1,_⟩
 ·cases hg
 rcases h'.2 with ⟨rfl,_⟩ | ⟨g2,_,_,rfl,_,h2,_⟩
 ·cases hg'
 injection hg with hg
 injection hg' with hg'
 subst hg
 simp only at hg' h1 h2
 subst hg'
 rw [h1] at h2
 injection h2 with h2
 injection h2 with _ h2
 exact hne h2
def Fresh (W:World) (base:Nat) (A:Option Addr) (m:Nat):Prop:=0<m→∃ b o,A=some ⟨b,o,none⟩∧base≤b∧∀ j,j<m→(∃ v,W.cell? ⟨b,o+j,none⟩=some v)∧W.frozen? ⟨b,o+j,none⟩=false
theorem own_fresh (ho:w.ownsRow base e 1 (.slice A m p) m (iv κ l)):Fresh w base A m:=by
 intro hn
 have hs:=own_sl ho
 rcases ho.2 with ⟨_,h0⟩ | ⟨g,cap,cur,he,hb,hg,hc⟩
 ·omega
 ·injection he with he
  subst he
  obtain ⟨b,o,e,_,hcc⟩:=hs.cells hn
  injection e with e
  injection e with e1 e2
  subst e1 e2
  exact ⟨g,0,rfl,hb,fun j hj=>⟨⟨_,hcc j hj⟩,frozen_of_row w g (0+j) cur _ hg⟩⟩
end
structure Rows3 (base:Nat) (A:Option Addr) (m p:Nat) (B:Option Addr) (k q:Nat) (C:Option Addr) (n r:Nat) (o l f:List Int) (W:World):Prop where
 a:W.ownsRow base 3 1 (.slice A m p) m (iv .i64 o)
 b:W.ownsRow base 3 1 (.slice B k q) k (iv .i64 l)
 c:W.ownsRow base 38 1 (.slice C n r) n (iv .u64 f)
 ab:∀ g,ob A=some g→ob B≠some g
structure Own3 (T:TypeId) (base bc:Nat) (sg st:Int) (A:Option Addr) (m p:Nat) (B:Option Addr) (k q:Nat) (C:Option Addr) (n r:Nat) (o l f:List Int) (W:World):Prop where
 z:Blk W bc T (csT sg st A m p B k q C n r)
 lt:bc<base
 s:Rows3 base A m p B k q C n r o l f W
 sz:base≤W.heap.size
section
variable {base:Nat} {sg st:Int} {A:Option Addr} {m p:Nat} {B:Option Addr} {k q:Nat} {C:Option Addr} {n r:Nat} {o l f:List Int} {W W' : World}
theorem Rows3.later (h:Rows3 base A m p B k q C n r o l f W) (hb:Below W.heap.size W W'):Rows3 base A m p B k q C n r o l f W':=⟨own_later h.a hb,own_later h.b hb,own_later h.c hb,h.ab⟩
theorem Rows3.wide (h:Rows3 base A m p B k q C n r o l f W) {b' : Nat} (hb:b'≤base):Rows3 b' A m p B k q C n r o l f W:=⟨own_base h.a hb,own_base h.b hb,own_base h.c hb,h.ab⟩
theorem Rows3.tin (h:Rows3 base A m p B k q C n r o l f W):TIn W A m B k C n o l f:=⟨own_sl h.a,own_sl h.b,own_sl h.c⟩
theorem Own3.later {T:TypeId} {bc:Nat} (h:Own3 T base bc sg st A m p B k q C n r o l f W) (hb:Below W.heap.size W W'):Own3 T base bc sg st A m p B k q C n r o l f W':=⟨h.z.later hb,h.lt,h.s.later hb,Nat.le_trans h.sz hb.size⟩
end
theorem blk_grown {W W' : World} {row:Option Nat} {b:Nat} {t:TypeId} {cs:Array Value} (h:Blk W b t cs) (hg:W.grownBy W' row) (hb:some b≠row):Blk W' b t cs:=(hg.block b h.lt hb).trans h
theorem grown_set (W:World) (b i:Nat) (u:Value):W.grownBy (W.setCell ⟨b,i,none⟩ u) (some b) :=
 ⟨rfl,rfl,rfl,by simp,fun k _ hne=>Below.heap_setCell W ⟨b,i,none⟩ u k (fun e=>hne (by rw [e]))⟩
theorem Blk.set_ {w:World} {g:Nat} {t:TypeId} {cs:Array Value} (h:Blk w g t cs) (i:Nat) (u:Value):Blk (w.setCell ⟨g,i,none⟩ u) g t (cs.setIfInBounds i u):=by
 unfold Blk at h ⊢
 simp [World.setCell,Array.getElem?_modify,h]
theorem own_kept {w w' : World} {base:Nat} {e:TypeId} {size n n' : Nat} {A B:Option Addr} {p q:Nat} {xs:List Value} (h:w.ownsRow base e size (.slice B n q) n' xs) (hg:w.grownBy w' (ob A)) (hne:∀ g,ob A=some g→ob B≠some g):w'.ownsRow base e size (.slice B n q) n' xs:=by
 refine h.kept hg ?_
 rw [ob_eq]
 cases hq:ob B with
 | none=>exact .inl rfl
 | some r=>exact .inr (fun e=>hne r e.symm hq)
theorem list_append_run {ops:Array Oper} {rest:List Oper} {o:Oper} {a:Act} {w:World} {Q:Exit→Act→World→Prop} (hgd:o.guard=none) (s x:Operand) (T:TypeId)
 (ho:o.op=.call { callee:=.builtin .append,args:=#[s,x],argTypes:=#[T,T] }) (u1 u2:Value) (hs:a.eval s=u1) (hx:a.eval x=u2) {v' : Value} {W5:World}
 (hrun:∀ ty,(Builtin.append_ #[T,T] ty #[u1,u2]).run Tryz.prog w=.ok v' W5) (h:wpList Tryz.prog ops Q rest (a.put o.dst v') W5):wpList Tryz.prog ops Q (o :: rest) a w:=by
 refine wpList_plain hgd fun K hK=>?_
 unfold Oper.wp
 simp only [execOp,ho,resolve,invoke,builtin,Sem.run_bind,Sem.run_pure,Result.andThen_ok,List.map_toArray,List.map_cons,List.map_nil,hs,hx,hrun]
 exact hK _ _ h
theorem step_append_run {ops:Array Oper} {o:Oper} {a:Act} {w:World} {K:Act→World→Prop} {Q:Exit→Act→World→Prop} {E:Prop} (hgd:o.guard=none) (s x:Operand) (T:TypeId)
 (ho:o.op=.call { callee:=.builtin .append,args:=#[s,x],argTypes:=#[T,T] }) (u1 u2:Value) (hs:a.eval s=u1) (hx:a.eval x=u2) {v' : Value} {W5:World}
 (hrun:∀ ty,(Builtin.append_ #[T,T] ty #[u1,u2]).run Tryz.prog w=.ok v' W5) (h:K (a.put o.dst v') W5) :
 if Region.wanted o (yielded ops a.tmps)=true then Oper.wp Tryz.prog o a w K Q else E:=by
 have hw:Region.wanted o (yielded ops a.tmps)=true:=by simp [Region.wanted,hgd]
 rw [if_pos hw]
 unfold Oper.wp
 simp only [execOp,ho,resolve,invoke,builtin,Sem.run_bind,Sem.run_pure,Result.andThen_ok,List.map_toArray,List.map_cons,List.map_nil,hs,hx,hrun]
 exact h
theorem push_run {κ:IntKind} {e T:TypeId} {z:Value} (hT:Tryz.prog.underlying T=some (.slice e)) (hI:(Tryz.prog.info? e).map (fun i=>(i.zero,i.size,i.bytes))=some (some z,1,8)) (hz:z.cells.size=1)
 {W:World} {base m p nb:Nat} {A:Option Addr} {o:List Int} {x:Int} (h:W.ownsRow base e 1 (.slice A m p) m (iv κ o)) (hm:m<1000) (hc:W.cell? ⟨nb,0,none⟩=some (.int κ x)) (hb:base≤W.heap.size) :
 ∃ g p' W5,(∀ ty,(Builtin.append_ #[T,T] ty #[.slice A m p,.slice (some ⟨nb,0,none⟩) 1 1]).run Tryz.prog W=.ok (.slice (some ⟨g,0,none⟩) (m+1) p') W5) ∧
   W5.ownsRow base e 1 (.slice (some ⟨g,0,none⟩) (m+1) p') (m+1) (iv κ (o++[x]))∧W.grownBy W5 (ob A)∧(ob A=some g∨g=W.heap.size)∧g<W5.heap.size:=by
 obtain ⟨i0,hi0,hz0,hz1,hz2⟩:=info_of hI
 have key:∀ ty,_:=fun ty=>run_append_own_at (P:=Tryz.prog) W base T ty e i0 z 1 8 hT hi0 hz0 hz1 hz2 hz (by omega) (.slice A m p) m (iv κ o) h ⟨nb,0,none⟩ 1 1 [.int κ x] rfl
  (fun j u hu=>by
   rw [Addr.add_mid,Nat.zero_add]
   cases j with
   | zero=>simp at hu; subst hu; exact hc
   | succ j=>simp at hu)
  (by intro u hu; simp at hu; subst hu; rfl) (by unfold maxLen; omega) (by omega) hb
 obtain ⟨v5,W5,hrun,own5,g5,_,hat5⟩:=key T
 obtain ⟨g,p',rfl⟩:∃ g p',v5=.slice (some ⟨g,0,none⟩) (m+1) p':=by
  rcases own5.2 with ⟨_,h0⟩ | ⟨g,cap,cur,rfl,_⟩
  ·omega
  ·exact ⟨_,_,rfl⟩
 rw [iv_snoc] at own5
 rw [ob_eq] at g5
 simp only [ob_eq] at hat5
 refine ⟨g,p',W5,fun ty=>hrun,own5,g5,?_,(own5.lt g rfl).2⟩
 rcases hat5 with e|e
 ·exact .inl e.symm
 ·right
  injection e
theorem Own3.push_a {T:TypeId} {base bc:Nat} {sg st:Int} {A:Option Addr} {m p:Nat} {B:Option Addr} {k q:Nat} {C:Option Addr} {n r:Nat} {o l f:List Int} {W:World} {nb:Nat} {x:Int} (h:Own3 T base bc sg st A m p B k q C n r o l f W) (hc:W.cell? ⟨nb,0,none⟩=some (.int .i64 x)) (hm:m<1000) :
 ∃ g p' W5,(∀ ty,(Builtin.append_ #[40,40] ty #[.slice A m p,.slice (some ⟨nb,0,none⟩) 1 1]).run Tryz.prog W=.ok (.slice (some ⟨g,0,none⟩) (m+1) p') W5) ∧
   W5.cell? ⟨bc,2,none⟩=some (.slice A m p)∧W5.frozen? ⟨bc,2,none⟩=false∧Own3 T base bc sg st (some ⟨g,0,none⟩) (m+1) p' B k q C n r (o++[x]) l f (W5.setCell ⟨bc,2,none⟩ (.slice (some ⟨g,0,none⟩) (m+1) p')) ∧
   (∀ w0,Below w0.heap.size w0 W→w0.heap.size≤bc→Below w0.heap.size w0 (W5.setCell ⟨bc,2,none⟩ (.slice (some ⟨g,0,none⟩) (m+1) p')))∧(∀ b t cs,Blk W b t cs→b<base→b≠bc→Blk (W5.setCell ⟨bc,2,none⟩ (.slice (some ⟨g,0,none⟩) (m+1) p')) b t cs):=by
 obtain ⟨g,p',W5,hrun,own5,g5,hat,hlt⟩:=push_run (T:=40) Tryz.underlying40 infoI rfl h.s.a hm hc h.sz
 have hrow:∀ j,ob A=some j→base≤j:=fun j hj=>(h.s.a.lt j (by rw [ob_eq]; exact hj)).1
 have k5:=blk_grown h.z g5 (fun e=>by have:=hrow bc e.symm; have:=h.lt; omega)
 have gs:=grown_set W5 bc 2 (.slice (some ⟨g,0,none⟩) (m+1) p')
 have keep:∀ {e' : TypeId} {B' : Option Addr} {n' q' : Nat} {xs:List Value},W5.ownsRow base e' 1 (.slice B' n' q') n' xs→(W5.setCell ⟨bc,2,none⟩ (.slice (some ⟨g,0,none⟩) (m+1) p')).ownsRow base e' 1 (.slice B' n' q') n' xs:=fun {e'} {B'} {n'} {q'} {xs} ho=>ho.kept gs (by
  cases hq:(Value.slice B' n' q').ownBlock with
  | none=>exact .inl rfl
  | some j=>exact .inr (fun e=>by injection e with e; have:=(ho.lt j hq).1; have:=h.lt; omega))
 refine ⟨g,p',W5,hrun,k5.cell 2,k5.frozen 2,⟨?_,h.lt,⟨?_,?_,?_,?_⟩,?_⟩,fun w0 hb hle=>?_,fun b t cs hB hb hne=>?_⟩
 ·exact k5.set_ 2 _
 ·exact keep own5
 ·exact keep (own_kept (p:=0) h.s.b g5 h.s.ab)
 ·exact keep (own_kept (p:=0) h.s.c g5 (fun j hj=>by have:=own_ne h.s.a h.s.c (by decide) j; rw [ob_eq,ob_eq] at this; exact this hj))
 ·intro j hj hh
  injection hj with hj
  have hj:g=j:=hj
  rcases hat with e|e
  ·exact h.s.ab j (by rw [e,hj]) hh
  ·have:=(h.s.b.lt j (by rw [ob_eq]; exact hh)).2
   omega
 ·have:=g5.size; have:=h.sz; simp; omega
 ·refine Below.setCell (p:=⟨bc,2,none⟩) ?_ hle _
  exact hb.grown g5 hb.size (fun j hj=>by have:=hrow j hj; have:=h.lt; omega)
 ·exact blk_grown (blk_grown hB g5 (fun e=>by have:=hrow b e.symm; omega)) gs (fun e=>by injection e with e; exact hne e)
theorem Own3.push_b {T:TypeId} {base bc:Nat} {sg st:Int} {A:Option Addr} {m p:Nat} {B:Option Addr} {k q:Nat} {C:Option Addr} {n r:Nat} {o l f:List Int} {W:World} {nb:Nat} {x:Int} (h:Own3 T base bc sg st A m p B k q C n r o l f W) (hc:W.cell? ⟨nb,0,none⟩=some (.int .i64 x)) (hm:k<1000) :
 ∃ g p' W5,(∀ ty,(Builtin.append_ #[40,40] ty #[.slice B k q,.slice (some ⟨nb,0,none⟩) 1 1]).run Tryz.prog W=.ok (.slice (some ⟨g,0,none⟩) (k+1) p') W5) ∧
   W5.cell? ⟨bc,3,none⟩=some (.slice B k q)∧W5.frozen? ⟨bc,3,none⟩=false∧Own3 T base bc sg st A m p (some ⟨g,0,none⟩) (k+1) p' C n r o (l++[x]) f (W5.setCell ⟨bc,3,none⟩ (.slice (some ⟨g,0,none⟩) (k+1) p')) ∧
   (∀ w0,Below w0.heap.size w0 W→w0.heap.size≤bc→Below w0.heap.size w0 (W5.setCell ⟨bc,3,none⟩ (.slice (some ⟨g,0,none⟩) (k+1) p')))∧(∀ b t cs,Blk W b t cs→b<base→b≠bc→Blk (W5.setCell ⟨bc,3,none⟩ (.slice (some ⟨g,0,none⟩) (k+1) p')) b t cs):=by
 obtain ⟨g,p',W5,hrun,own5,g5,hat,hlt⟩:=push_run (T:=40) Tryz.underlying40 infoI rfl h.s.b hm hc h.sz
 have hrow:∀ j,ob B=some j→base≤j:=fun j hj=>(h.s.b.lt j (by rw [ob_eq]; exact hj)).1
 have k5:=blk_grown h.z g5 (fun e=>by have:=hrow bc e.symm; have:=h.lt; omega)
 have gs:=grown_set W5 bc 3 (.slice (some ⟨g,0,none⟩) (k+1) p')
 have keep:∀ {e' : TypeId} {B' : Option Addr} {n' q' : Nat} {xs:List Value},W5.ownsRow base e' 1 (.slice B' n' q') n' xs→(W5.setCell ⟨bc,3,none⟩ (.slice (some ⟨g,0,none⟩) (k+1) p')).ownsRow base e' 1 (.slice B' n' q') n' xs:=fun {e'} {B'} {n'} {q'} {xs} ho=>ho.kept gs (by
  cases hq:(Value.slice B' n' q').ownBlock with
  | none=>exact .inl rfl
  | some j=>exact .inr (fun e=>by injection e with e; have:=(ho.lt j hq).1; have:=h.lt; omega))
 refine ⟨g,p',W5,hrun,k5.cell 3,k5.frozen 3,⟨?_,h.lt,⟨?_,?_,?_,?_⟩,?_⟩,fun w0 hb hle=>?_,fun b t cs hB hb hne=>?_⟩
 ·exact k5.set_ 3 _
 ·exact keep (own_kept (p:=0) h.s.a g5 (fun j hj hh=>h.s.ab j hh hj))
 ·exact keep own5
 ·exact keep (own_kept (p:=0) h.s.c g5 (fun j hj=>by have:=own_ne h.s.b h.s.c (by decide) j; rw [ob_eq,ob_eq] at this; exact this hj))
 ·intro j hj hh
  injection hh with hh
  have hh:g=j:=hh
  rcases hat with e|e
  ·exact h.s.ab j hj (by rw [e,hh])
  ·have:=(h.s.a.lt j (by rw [ob_eq]; exact hj)).2
   omega
 ·have:=g5.size; have:=h.sz; simp; omega
 ·refine Below.setCell (p:=⟨bc,3,none⟩) ?_ hle _
  exact hb.grown g5 hb.size (fun j hj=>by have:=hrow j hj; have:=h.lt; omega)
 ·exact blk_grown (blk_grown hB g5 (fun e=>by have:=hrow b e.symm; omega)) gs (fun e=>by injection e with e; exact hne e)
theorem Own3.push_c {T:TypeId} {base bc:Nat} {sg st:Int} {A:Option Addr} {m p:Nat} {B:Option Addr} {k q:Nat} {C:Option Addr} {n r:Nat} {o l f:List Int} {W:World} {nb:Nat} {x:Int} (h:Own3 T base bc sg st A m p B k q C n r o l f W) (hc:W.cell? ⟨nb,0,none⟩=some (.int .u64 x)) (hm:n<1000) :
 ∃ g p' W5,(∀ ty,(Builtin.append_ #[43,43] ty #[.slice C n r,.slice (some ⟨nb,0,none⟩) 1 1]).run Tryz.prog W=.ok (.slice (some ⟨g,0,none⟩) (n+1) p') W5) ∧
   W5.cell? ⟨bc,4,none⟩=some (.slice C n r)∧W5.frozen? ⟨bc,4,none⟩=false∧Own3 T base bc sg st A m p B k q (some ⟨g,0,none⟩) (n+1) p' o l (f++[x]) (W5.setCell ⟨bc,4,none⟩ (.slice (some ⟨g,0,none⟩) (n+1) p')) ∧
   (∀ w0,Below w0.heap.size w0 W→w0.heap.size≤bc→Below w0.heap.size w0 (W5.setCell ⟨bc,4,none⟩ (.slice (some ⟨g,0,none⟩) (n+1) p')))∧(∀ b t cs,Blk W b t cs→b<base→b≠bc→Blk (W5.setCell ⟨bc,4,none⟩ (.slice (some ⟨g,0,none⟩) (n+1) p')) b t cs):=by
 obtain ⟨g,p',W5,hrun,own5,g5,hat,hlt⟩:=push_run (T:=43) Tryz.underlying43 infoU rfl h.s.c hm hc h.sz
 have hrow:∀ j,ob C=some j→base≤j:=fun j hj=>(h.s.c.lt j (by rw [ob_eq]; exact hj)).1
 have k5:=blk_grown h.z g5 (fun e=>by have:=hrow bc e.symm; have:=h.lt; omega)
 have gs:=grown_set W5 bc 4 (.slice (some ⟨g,0,none⟩) (n+1) p')
 have keep:∀ {e' : TypeId} {B' : Option Addr} {n' q' : Nat} {xs:List Value},W5.ownsRow base e' 1 (.slice B' n' q') n' xs→(W5.setCell ⟨bc,4,none⟩ (.slice (some ⟨g,0,none⟩) (n+1) p')).ownsRow base e' 1 (.slice B' n' q') n' xs:=fun {e'} {B'} {n'} {q'} {xs} ho=>ho.kept gs (by
  cases hq:(Value.slice B' n' q').ownBlock with
  | none=>exact .inl rfl
  | some j=>exact .inr (fun e=>by injection e with e; have:=(ho.lt j hq).1; have:=h.lt; omega))
 refine ⟨g,p',W5,hrun,k5.cell 4,k5.frozen 4,⟨?_,h.lt,⟨?_,?_,?_,?_⟩,?_⟩,fun w0 hb hle=>?_,fun b t cs hB hb hne=>?_⟩
 ·exact k5.set_ 4 _
 ·exact keep (own_kept (p:=0) h.s.a g5 (fun j hj=>by have:=own_ne h.s.c h.s.a (by decide) j; rw [ob_eq,ob_eq] at this; exact this hj))
 ·exact keep (own_kept (p:=0) h.s.b g5 (fun j hj=>by have:=own_ne h.s.c h.s.b (by decide) j; rw [ob_eq,ob_eq] at this; exact this hj))
 ·exact keep own5
 ·exact h.s.ab
 ·have:=g5.size; have:=h.sz; simp; omega
 ·refine Below.setCell (p:=⟨bc,4,none⟩) ?_ hle _
  exact hb.grown g5 hb.size (fun j hj=>by have:=hrow j hj; have:=h.lt; omega)
 ·exact blk_grown (blk_grown hB g5 (fun e=>by have:=hrow b e.symm; omega)) gs (fun e=>by injection e with e; exact hne e)
open Go.RowKit Go.Lib
set_option linter.unusedVariables false
theorem run_eqlIn_slice {P:Program} (w:World) (d:Nat) (t e:TypeId) (A:Option Addr) (n c:Nat) (h:P.underlying t=some (.slice e)):(Op.equalIn (d+1) t (.slice A n c) (.slice none 0 0)).run P w=.ok A.isNone w:=by
 cases A <;> simp [Op.equalIn,run_underlying h]
theorem run_eql_slice {P:Program} (w:World) (t e:TypeId) (A:Option Addr) (n c:Nat) (h:P.underlying t=some (.slice e)):(binOp .eql t (.slice A n c) (.slice none 0 0)).run P w=.ok (.bool A.isNone) w:=by
 simp only [binOp]
 simp [show Op.equal t (.slice A n c) (.slice none 0 0)=Op.equalIn (9999+1) t (.slice A n c) (.slice none 0 0) from rfl,run_eqlIn_slice w 9999 t e A n c h]
def Full (A:Option Addr) (m:Nat):Prop:=(A=none∧m=0)∨0<m
def ClP (κ:IntKind) (e:TypeId) (m:Nat) (l:List Int) (w:World) (en:Ending) (w' : World):Prop :=
 ∃ A p,en=.returned (.slice A m p)∧w'.ownsRow w.heap.size e 1 (.slice A m p) m (iv κ l)∧Below w.heap.size w w'
theorem sl_cells {κ:IntKind} {W:World} {b off m:Nat} {l:List Int} (h:Sl κ W (some ⟨b,off,none⟩) m l):∀ j u,(iv κ l)[j]? = some u→W.cell? ((⟨b,off,none⟩:Addr).add j)=some u:=by
 intro j u hu
 have hj:j<l.length:=by
  have:=(List.getElem?_eq_some_iff.1 hu).1
  rwa [iv_len] at this
 rw [iv_at κ hj] at hu
 injection hu with hu
 subst hu
 have hl:=h.len
 obtain ⟨b',o',e,_,hc⟩:=h.cells (by omega)
 injection e with e
 injection e with e1 e2
 subst e1 e2
 rw [Addr.add_mid]
 exact hc j (by omega)
theorem clone_run {κ:IntKind} {e T:TypeId} {z:Value} (hT:Tryz.prog.underlying T=some (.slice e)) (hI:(Tryz.prog.info? e).map (fun i=>(i.zero,i.size,i.bytes))=some (some z,1,8)) (hz:z.cells.size=1)
 {W:World} {b off m p:Nat} {l:List Int} (h:Sl κ W (some ⟨b,off,none⟩) m l) (h0:0<m) (hm:m≤1000) :
 ∃ g p' W5,(∀ ty,(Builtin.append_ #[T,T] ty #[.slice (some ⟨W.heap.size,0,none⟩) 0 0,.slice (some ⟨b,off,none⟩) m p]).run Tryz.prog (W.alloc (.cells #[] e))=.ok (.slice (some ⟨g,0,none⟩) m p') W5) ∧
   W5.ownsRow W.heap.size e 1 (.slice (some ⟨g,0,none⟩) m p') m (iv κ l)∧Below W.heap.size W W5:=by
 obtain ⟨i0,hi0,hz0,hz1,hz2⟩:=info_of hI
 have key:∀ ty,_:=fun ty=>run_append_own_at (P:=Tryz.prog) (W.alloc (.cells #[] e)) W.heap.size T ty e i0 z 1 8 hT hi0 hz0 hz1 hz2 hz (by omega) (.slice (some ⟨W.heap.size,0,none⟩) 0 0) 0 []
  (World.ownsRow_lit W #[] 0 (Nat.le_refl _) (Nat.zero_le _) rfl) ⟨b,off,none⟩ m p (iv κ l) (by rw [iv_len,h.len,Nat.mul_one]) (sl_cells (h.later (below1 _ _))) (iv_one κ l) (by unfold maxLen; omega) (by omega) (by simp)
 obtain ⟨v5,W5,hrun,own5,g5,_,hat5⟩:=key T
 rw [Nat.zero_add,List.nil_append] at own5
 obtain ⟨g,p',rfl⟩:∃ g p',v5=.slice (some ⟨g,0,none⟩) m p':=by
  rcases own5.2 with ⟨_,h0⟩ | ⟨g,cap,cur,rfl,_⟩
  ·omega
  ·exact ⟨_,_,rfl⟩
 exact ⟨g,p',W5,fun ty=>hrun,own5,(below1 W _).grown g5 (by simp) (fun j hj=>by injection hj with hj; subst hj; exact Nat.le_refl _)⟩
theorem clone_i (A:Option Addr) (m p:Nat) (l:List Int) (w:World) (h:Sl .i64 w A m l) (hf:Full A m) (hm:m≤1000) :
 Calls Tryz.prog 109 #[.slice A m p] w (ClP .i64 3 m l w):=by
 by_cases hz:m=0
 ·subst hz
  obtain rfl:A=none:=by rcases hf with ⟨h,_⟩|h; exact h; omega
  have h1:=List.length_eq_zero_iff.1 h.len.symm
  subst h1
  have hnil:=run_eql_slice (P:=Tryz.prog) w 40 _ none 0 p Tryz.underlying40
  go_enter Tryz.func109,Tryz.ntmps109
  go_wp2_with fail
  go_ret
  exact ⟨none,0,rfl,World.ownsRow_nil _ _ _ _,Below.refl _ _⟩
 obtain ⟨b,off,rfl,hb,hc⟩:=h.cells (by omega)
 obtain ⟨g,p',W5,R,own,hB⟩:=clone_run (T:=40) Tryz.underlying40 infoI rfl h (p:=p) (by omega) hm
 have HR:=Lib.hid R
 clear R hc hz
 have hnil:=run_eql_slice (P:=Tryz.prog) w 40 _ (some ⟨b,off,none⟩) m p Tryz.underlying40
 go_enter Tryz.func109,Tryz.ntmps109
 go_wp2_with (at_builtin; refine list_append_run rfl (.tmp 5) (.tmp 6) 40 rfl _ _ rfl rfl HR.out ?_)
 go_ret
 exact ⟨_,p',rfl,own,hB⟩
theorem clone_u (A:Option Addr) (m p:Nat) (l:List Int) (w:World) (h:Sl .u64 w A m l) (hf:Full A m) (hm:m≤1000) :
 Calls Tryz.prog 112 #[.slice A m p] w (ClP .u64 38 m l w):=by
 by_cases hz:m=0
 ·subst hz
  obtain rfl:A=none:=by rcases hf with ⟨h,_⟩|h; exact h; omega
  have h1:=List.length_eq_zero_iff.1 h.len.symm
  subst h1
  have hnil:=run_eql_slice (P:=Tryz.prog) w 43 _ none 0 p Tryz.underlying43
  go_enter Tryz.func112,Tryz.ntmps112
  go_wp2_with fail
  go_ret
  exact ⟨none,0,rfl,World.ownsRow_nil _ _ _ _,Below.refl _ _⟩
 obtain ⟨b,off,rfl,hb,hc⟩:=h.cells (by omega)
 obtain ⟨g,p',W5,R,own,hB⟩:=clone_run (T:=43) Tryz.underlying43 infoU rfl h (p:=p) (by omega) hm
 have HR:=Lib.hid R
 clear R hc hz
 have hnil:=run_eql_slice (P:=Tryz.prog) w 43 _ (some ⟨b,off,none⟩) m p Tryz.underlying43
 go_enter Tryz.func112,Tryz.ntmps112
 go_wp2_with (at_builtin; refine list_append_run rfl (.tmp 5) (.tmp 6) 43 rfl _ _ rfl rfl HR.out ?_)
 go_ret
 exact ⟨_,p',rfl,own,hB⟩
open Go.RowKit Go.Lib
set_option linter.unusedVariables false
theorem info_t:(Tryz.prog.info? 45).map (·.size)=some 5:=by kernel_rfl
theorem info_r:(Tryz.prog.info? 53).map (·.size)=some 5:=by kernel_rfl
section
variable {ops:Array Oper} {rest:List Oper} {o:Oper} {a:Act} {w:World} {Q:Exit→Act→World→Prop}
theorem load_t (hgd:o.guard=none) (x:Operand) (ho:o.op=.load 45 x) (b:Nat) (hx:a.eval x=.pointer (some ⟨b,0,none⟩)) {sg st:Int} {A:Option Addr} {m p:Nat} {B:Option Addr} {k q:Nat} {C:Option Addr} {n r:Nat} {t:TypeId} (hg:Blk w b t (csT sg st A m p B k q C n r))
 (h:wpList Tryz.prog ops Q rest (a.put o.dst (.agg #[.int .i64 sg,.int .i64 st,.slice A m p,.slice B k q,.slice C n r])) w):wpList Tryz.prog ops Q (o :: rest) a w :=
 wpList_load_row hgd _ x ho b hx _ (csT sg st A m p B k q C n r) (0,0) _ hg Tryz.underlying45 rfl info_t h
theorem store_t (hgd:o.guard=none) (x y:Operand) (ho:o.op=.store 45 x y) (b:Nat) (hx:a.eval x=.pointer (some ⟨b,0,none⟩)) {sg st:Int} {A:Option Addr} {m p:Nat} {B:Option Addr} {k q:Nat} {C:Option Addr} {n r:Nat} (hy:a.eval y=.agg #[.int .i64 sg,.int .i64 st,.slice A m p,.slice B k q,.slice C n r]) {sg0 st0:Int} {A0:Option Addr} {m0 p0:Nat} {B0:Option Addr} {k0 q0:Nat} {C0:Option Addr} {n0 r0:Nat} {t:TypeId} (hg:Blk w b t (csT sg0 st0 A0 m0 p0 B0 k0 q0 C0 n0 r0))
 (h:wpList Tryz.prog ops Q rest (a.put o.dst undef) (w.setRow b (csT sg st A m p B k q C n r))):wpList Tryz.prog ops Q (o :: rest) a w :=
 wpList_store_row hgd _ x y ho b (csT sg st A m p B k q C n r) hx hy _ _ hg info_t rfl (csT_one sg st A m p B k q C n r) h
theorem load_r (hgd:o.guard=none) (x:Operand) (ho:o.op=.load 53 x) (b:Nat) (hx:a.eval x=.pointer (some ⟨b,0,none⟩)) {sg st:Int} {A:Option Addr} {m p:Nat} {B:Option Addr} {k q:Nat} {C:Option Addr} {n r:Nat} {t:TypeId} (hg:Blk w b t (csT sg st A m p B k q C n r))
 (h:wpList Tryz.prog ops Q rest (a.put o.dst (.agg #[.int .i64 sg,.int .i64 st,.slice A m p,.slice B k q,.slice C n r])) w):wpList Tryz.prog ops Q (o :: rest) a w :=
 wpList_load_row hgd _ x ho b hx _ (csT sg st A m p B k q C n r) (0,0) _ hg Tryz.underlying53 rfl info_r h
theorem store_r (hgd:o.guard=none) (x y:Operand) (ho:o.op=.store 53 x y) (b:Nat) (hx:a.eval x=.pointer (some ⟨b,0,none⟩)) {sg st:Int} {A:Option Addr} {m p:Nat} {B:Option Addr} {k q:Nat} {C:Option Addr} {n r:Nat} (hy:a.eval y=.agg #[.int .i64 sg,.int .i64 st,.slice A m p,.slice B k q,.slice C n r]) {sg0 st0:Int} {A0:Option Addr} {m0 p0:Nat} {B0:Option Addr} {k0 q0:Nat} {C0:Option Addr} {n0 r0:Nat} {t:TypeId} (hg:Blk w b t (csT sg0 st0 A0 m0 p0 B0 k0 q0 C0 n0 r0))
 (h:wpList Tryz.prog ops Q rest (a.put o.dst undef) (w.setRow b (csT sg st A m p B k q C n r))):wpList Tryz.prog ops Q (o :: rest) a w :=
 wpList_store_row hgd _ x y ho b (csT sg st A m p B k q C n r) hx hy _ _ hg info_r rfl (csT_one sg st A m p B k q C n r) h
end
theorem res_t1 {fn:Func} {p' : Tmp} (h:fn.results=#[.cell p' 45]) (tmps:Array Value) (W:World) (b:Nat) {sg st:Int} {A:Option Addr} {m p:Nat} {B:Option Addr} {k q:Nat} {C:Option Addr} {n r:Nat} {t:TypeId} (hp:tmps.getD p' undef=.pointer (some ⟨b,0,none⟩)) (L:Blk W b t (csT sg st A m p B k q C n r)) :
 (results fn tmps).run Tryz.prog W=.ok (.agg #[.int .i64 sg,.int .i64 st,.slice A m p,.slice B k q,.slice C n r]) W :=
 results_cell_row h tmps W b t (csT sg st A m p B k q C n r) (0,0) _ hp L Tryz.underlying45 rfl info_t
theorem res_r1 {fn:Func} {p' : Tmp} (h:fn.results=#[.cell p' 53]) (tmps:Array Value) (W:World) (b:Nat) {sg st:Int} {A:Option Addr} {m p:Nat} {B:Option Addr} {k q:Nat} {C:Option Addr} {n r:Nat} {t:TypeId} (hp:tmps.getD p' undef=.pointer (some ⟨b,0,none⟩)) (L:Blk W b t (csT sg st A m p B k q C n r)) :
 (results fn tmps).run Tryz.prog W=.ok (.agg #[.int .i64 sg,.int .i64 st,.slice A m p,.slice B k q,.slice C n r]) W :=
 results_cell_row h tmps W b t (csT sg st A m p B k q C n r) (0,0) _ hp L Tryz.underlying53 rfl info_r
theorem res_t2 {fn:Func} {p' q' : Tmp} (h:fn.results=#[.cell p' 45,.tmp q']) (tmps:Array Value) (W:World) (b:Nat) {sg st:Int} {A:Option Addr} {m p:Nat} {B:Option Addr} {k q:Nat} {C:Option Addr} {n r:Nat} {t:TypeId} {y:Value} (hp:tmps.getD p' undef=.pointer (some ⟨b,0,none⟩)) (hq:tmps.getD q' undef=y) (L:Blk W b t (csT sg st A m p B k q C n r)) :
 (results fn tmps).run Tryz.prog W=.ok (.tuple #[.agg #[.int .i64 sg,.int .i64 st,.slice A m p,.slice B k q,.slice C n r],y]) W:=by
 have hp' : tmps[p']?.getD undef=.pointer (some ⟨b,0,none⟩):=by simpa using hp
 have hq' : tmps[q']?.getD undef=y:=by simpa using hq
 have h1:(loadVar 45 ⟨b,0,none⟩).run Tryz.prog W=.ok (.agg #[.int .i64 sg,.int .i64 st,.slice A m p,.slice B k q,.slice C n r]) W:=run_loadVar_row W b t 45 (csT sg st A m p B k q C n r) (0,0) _ L Tryz.underlying45 rfl info_t
 simp [results,h,hp',hq',asAddr,h1]
theorem own_set {W:World} {base b i:Nat} {u:Value} {e:TypeId} {size n:Nat} {v:Value} {xs:List Value} (h:W.ownsRow base e size v n xs) (hb:b<base):(W.setCell ⟨b,i,none⟩ u).ownsRow base e size v n xs:=by
 refine h.kept (grown_set W b i u) ?_
 cases hq:v.ownBlock with
 | none=>exact .inl rfl
 | some j=>exact .inr (fun e=>by injection e with e; have:=(h.lt j hq).1; omega)
theorem own_row {W:World} {base b:Nat} {cs:Array Value} {e:TypeId} {size n:Nat} {v:Value} {xs:List Value} (h:W.ownsRow base e size v n xs) (hb:b<base):(W.setRow b cs).ownsRow base e size v n xs:=by
 refine ⟨h.1,?_⟩
 rcases h.2 with h0 | ⟨g,cap,cur,he,hbg,hg,hc⟩
 ·exact .inl h0
 ·refine .inr ⟨g,cap,cur,he,hbg,?_,hc⟩
  rw [← hg]
  unfold World.setRow
  rw [Array.getElem?_modify,if_neg (by omega)]
theorem Rows3.set_ {W:World} {base:Nat} {A:Option Addr} {m p:Nat} {B:Option Addr} {k q:Nat} {C:Option Addr} {n r:Nat} {o l f:List Int} (h:Rows3 base A m p B k q C n r o l f W) {b i:Nat} {u:Value} (hb:b<base):Rows3 base A m p B k q C n r o l f (W.setCell ⟨b,i,none⟩ u):=⟨own_set h.a hb,own_set h.b hb,own_set h.c hb,h.ab⟩
theorem Rows3.row {W:World} {base:Nat} {A:Option Addr} {m p:Nat} {B:Option Addr} {k q:Nat} {C:Option Addr} {n r:Nat} {o l f:List Int} (h:Rows3 base A m p B k q C n r o l f W) {b:Nat} {cs:Array Value} (hb:b<base):Rows3 base A m p B k q C n r o l f (W.setRow b cs):=⟨own_row h.a hb,own_row h.b hb,own_row h.c hb,h.ab⟩
theorem blk_far {W:World} {b g i:Nat} {t:TypeId} {cs:Array Value} {u:Value} (h:Blk W g t cs) (hb:g≠b):Blk (W.setCell ⟨b,i,none⟩ u) g t cs:=(Below.heap_setCell W ⟨b,i,none⟩ u g hb).trans h
def RowsP (sg st:Int) (m k n:Nat) (o l f:List Int) (w:World) (en:Ending) (w' : World):Prop :=
 ∃ A p B q C r,en=.returned (.agg #[.int .i64 sg,.int .i64 st,.slice A m p,.slice B k q,.slice C n r])∧Rows3 w.heap.size A m p B k q C n r o l f w'∧Below w.heap.size w w'
set_option maxHeartbeats 1000000 in
theorem copied_any (sg st:Int) (A:Option Addr) (m p:Nat) (B:Option Addr) (k q:Nat) (C:Option Addr) (n r:Nat) (o l f:List Int) (w:World) (h:TIn w A m B k C n o l f) (hfa:Full A m) (hfb:Full B k) (hfc:Full C n) (hm:m≤1000) (hk:k≤1000) (hn:n≤1000) :
 Calls Tryz.prog 161 #[.agg #[.int .i64 sg,.int .i64 st,.slice A m p,.slice B k q,.slice C n r]] w (RowsP sg st m k n o l f w):=by
 have B0:Below w.heap.size w ((w.alloc (.cells #[.int .i64 sg,.int .i64 st,.slice A m p,.slice B k q,.slice C n r] 45)).alloc (.cells #[.int .i64 0,.int .i64 0,.slice none 0 0,.slice none 0 0,.slice none 0 0] 45)):=Ge.trans (below1 _ _) (below1 _ _)
 have K0:Blk ((w.alloc (.cells #[.int .i64 sg,.int .i64 st,.slice A m p,.slice B k q,.slice C n r] 45)).alloc (.cells #[.int .i64 0,.int .i64 0,.slice none 0 0,.slice none 0 0,.slice none 0 0] 45)) w.heap.size 45 (csT sg st A m p B k q C n r):=(Blk.new w _ _).later (below1 _ _)
 have Z0:Blk ((w.alloc (.cells #[.int .i64 sg,.int .i64 st,.slice A m p,.slice B k q,.slice C n r] 45)).alloc (.cells #[.int .i64 0,.int .i64 0,.slice none 0 0,.slice none 0 0,.slice none 0 0] 45)) (w.heap.size+1) 45 (csT 0 0 none 0 0 none 0 0 none 0 0):=Blk.at_ _ _ _ (by simp)
 have sz0:((w.alloc (.cells #[.int .i64 sg,.int .i64 st,.slice A m p,.slice B k q,.slice C n r] 45)).alloc (.cells #[.int .i64 0,.int .i64 0,.slice none 0 0,.slice none 0 0,.slice none 0 0] 45)).heap.size=w.heap.size+2:=by simp
 have hT:=h.later B0
 have C1:=Lib.hid (clone_i A m p o _ hT.a hfa hm)
 go_enter Tryz.func161,Tryz.ntmps161
 go_upto_region 1 with fail
 generalize hW:(w.alloc (.cells #[.int .i64 sg,.int .i64 st,.slice A m p,.slice B k q,.slice C n r] 45)).alloc (.cells #[.int .i64 0,.int .i64 0,.slice none 0 0,.slice none 0 0,.slice none 0 0] 45)=W0 at *
 clear hW
 have k2:W0.cell? ⟨w.heap.size,2,none⟩=some (.slice A m p):=K0.cell 2
 have HT:=Lib.hid h
 have SZ:=Lib.hid sz0
 have HB0:=Lib.hid B0
 clear hT sz0 h B0
 go_wp2_with fail
 refine C1.out.mono ?_
 rintro e' w1 ⟨A1,p1,rfl,o1,b1⟩
 have K1:=K0.later b1
 have Z1:=Z0.later b1
 have c2:w1.cell? ⟨w.heap.size,2,none⟩=some (.slice A m p):=K1.cell 2
 have f2:=K1.frozen 2
 rw [SZ.out] at o1
 have B1:=Ge.trans HB0.out b1
 clear C1 k2 b1 K0 Z0 SZ HB0
 go_upto_region 2 with fail
 have K2:Blk (w1.setCell ⟨w.heap.size,2,none⟩ (.slice A1 m p1)) w.heap.size 45 (csT sg st A1 m p1 B k q C n r):=K1.set_ 2 _
 have Z2:Blk (w1.setCell ⟨w.heap.size,2,none⟩ (.slice A1 m p1)) (w.heap.size+1) 45 (csT 0 0 none 0 0 none 0 0 none 0 0):=blk_far Z1 (by omega)
 have B2:Below w.heap.size w (w1.setCell ⟨w.heap.size,2,none⟩ (.slice A1 m p1)):=Below.setCell (p:=⟨w.heap.size,2,none⟩) B1 (Nat.le_refl _) _
 have o2:(w1.setCell ⟨w.heap.size,2,none⟩ (.slice A1 m p1)).ownsRow (w.heap.size+2) 3 1 (.slice A1 m p1) m (iv .i64 o):=own_set o1 (by omega)
 clear c2 f2 K1 Z1 o1 B1
 generalize w1.setCell ⟨w.heap.size,2,none⟩ (.slice A1 m p1)=W2 at *
 have C2:=Lib.hid (clone_i B k q l W2 (HT.out.later B2).b hfb hk)
 have k3:W2.cell? ⟨w.heap.size,3,none⟩=some (.slice B k q):=K2.cell 3
 go_wp2_with fail
 refine C2.out.mono ?_
 rintro e' w3 ⟨B1,q1,rfl,o3,b3⟩
 have K3:=K2.later b3
 have Z3:=Z2.later b3
 have c3:w3.cell? ⟨w.heap.size,3,none⟩=some (.slice B k q):=K3.cell 3
 have f3:=K3.frozen 3
 have B3:=Ge.trans B2 b3
 have o2':=own_later o2 b3
 have ab:∀ g,ob A1=some g→ob B1≠some g:=fun g hg hg'=>by
  have h1:=(o2.lt g (by rw [ob_eq]; exact hg)).2
  have h2:=(o3.lt g (by rw [ob_eq]; exact hg')).1
  omega
 have o3':=own_base o3 (show w.heap.size+2≤W2.heap.size from K2.lt |> fun _=>by have:=Z2.lt; omega)
 have HAB:=Lib.hid ab
 clear C2 k3 b3 K2 Z2 B2 o2 ab o3
 go_upto_region 3 with fail
 have K4:Blk (w3.setCell ⟨w.heap.size,3,none⟩ (.slice B1 k q1)) w.heap.size 45 (csT sg st A1 m p1 B1 k q1 C n r):=K3.set_ 3 _
 have Z4:Blk (w3.setCell ⟨w.heap.size,3,none⟩ (.slice B1 k q1)) (w.heap.size+1) 45 (csT 0 0 none 0 0 none 0 0 none 0 0):=blk_far Z3 (by omega)
 have B4:Below w.heap.size w (w3.setCell ⟨w.heap.size,3,none⟩ (.slice B1 k q1)):=Below.setCell (p:=⟨w.heap.size,3,none⟩) B3 (Nat.le_refl _) _
 have o4:(w3.setCell ⟨w.heap.size,3,none⟩ (.slice B1 k q1)).ownsRow (w.heap.size+2) 3 1 (.slice A1 m p1) m (iv .i64 o):=own_set o2' (by omega)
 have r4:(w3.setCell ⟨w.heap.size,3,none⟩ (.slice B1 k q1)).ownsRow (w.heap.size+2) 3 1 (.slice B1 k q1) k (iv .i64 l):=own_set o3' (by omega)
 clear c3 f3 K3 Z3 o2' o3' B3
 generalize w3.setCell ⟨w.heap.size,3,none⟩ (.slice B1 k q1)=W4 at *
 have C3:=Lib.hid (clone_u C n r f W4 (HT.out.later B4).c hfc hn)
 have k4:W4.cell? ⟨w.heap.size,4,none⟩=some (.slice C n r):=K4.cell 4
 go_wp2_with fail
 refine C3.out.mono ?_
 rintro e' w5 ⟨C1,r1,rfl,o5,b5⟩
 have K5:=K4.later b5
 have Z5:=Z4.later b5
 have c4:w5.cell? ⟨w.heap.size,4,none⟩=some (.slice C n r):=K5.cell 4
 have f4:=K5.frozen 4
 have B5:=Ge.trans B4 b5
 have R5:Rows3 (w.heap.size+2) A1 m p1 B1 k q1 C1 n r1 o l f w5:=⟨own_later o4 b5,own_later r4 b5,own_base o5 (by have:=Z4.lt; omega),HAB.out⟩
 clear C3 k4 b5 K4 Z4 B4 o4 r4 o5
 go_upto_region 4 with fail
 have K6:Blk (w5.setCell ⟨w.heap.size,4,none⟩ (.slice C1 n r1)) w.heap.size 45 (csT sg st A1 m p1 B1 k q1 C1 n r1):=K5.set_ 4 _
 have Z6:Blk (w5.setCell ⟨w.heap.size,4,none⟩ (.slice C1 n r1)) (w.heap.size+1) 45 (csT 0 0 none 0 0 none 0 0 none 0 0):=blk_far Z5 (by omega)
 have B6:Below w.heap.size w (w5.setCell ⟨w.heap.size,4,none⟩ (.slice C1 n r1)):=Below.setCell (p:=⟨w.heap.size,4,none⟩) B5 (Nat.le_refl _) _
 have R6:Rows3 (w.heap.size+2) A1 m p1 B1 k q1 C1 n r1 o l f (w5.setCell ⟨w.heap.size,4,none⟩ (.slice C1 n r1)):=R5.set_ (by omega)
 clear c4 f4 K5 Z5 B5 R5
 generalize w5.setCell ⟨w.heap.size,4,none⟩ (.slice C1 n r1)=W6 at *
 have HK:=Lib.hid K6
 have HZ:=Lib.hid Z6
 clear K6 Z6
 go_wp2_with (first
  | (with_reducible refine load_t rfl (.tmp 1) rfl w.heap.size rfl HK.out ?_)
  | (with_reducible refine store_t rfl (.tmp 2) (.tmp 15) rfl (w.heap.size+1) rfl rfl HZ.out ?_))
 exact bodyPost_ret (res_t1 rfl _ _ (w.heap.size+1) rfl (HZ.out.row _)) rfl ⟨A1,p1,B1,q1,C1,r1,rfl,(R6.row (by omega)).wide (by omega),below_row B6 (by omega) _⟩
set_option maxHeartbeats 2000000 in
theorem opened_any (sg st:Int) (A:Option Addr) (m p:Nat) (B:Option Addr) (k q:Nat) (C:Option Addr) (n r:Nat) (o l f:List Int) (s first:Int) (w:World) (h:TIn w A m B k C n o l f) (hfa:Full A m) (hfb:Full B k) (hfc:Full C n) (hm:m<1000) (hk:k<1000) (hn:n<1000) :
 Calls Tryz.prog 129 #[.agg #[.int .i64 sg,.int .i64 st,.slice A m p,.slice B k q,.slice C n r],.int .i64 s,.int .u64 first] w (RowsP sg st (m+1) (k+1) (n+1) (o++[s]) (l++[0]) (f++[first]) w):=by
 have B0:Below w.heap.size w ((w.alloc (.cells #[.int .i64 sg,.int .i64 st,.slice A m p,.slice B k q,.slice C n r] 45)).alloc (.cells #[.int .i64 0,.int .i64 0,.slice none 0 0,.slice none 0 0,.slice none 0 0] 45)):=Ge.trans (below1 _ _) (below1 _ _)
 have K0:Blk ((w.alloc (.cells #[.int .i64 sg,.int .i64 st,.slice A m p,.slice B k q,.slice C n r] 45)).alloc (.cells #[.int .i64 0,.int .i64 0,.slice none 0 0,.slice none 0 0,.slice none 0 0] 45)) w.heap.size 45 (csT sg st A m p B k q C n r):=(Blk.new w _ _).later (below1 _ _)
 have Z0:Blk ((w.alloc (.cells #[.int .i64 sg,.int .i64 st,.slice A m p,.slice B k q,.slice C n r] 45)).alloc (.cells #[.int .i64 0,.int .i64 0,.slice none 0 0,.slice none 0 0,.slice none 0 0] 45)) (w.heap.size+1) 45 (csT 0 0 none 0 0 none 0 0 none 0 0):=Blk.at_ _ _ _ (by simp)
 have sz0:((w.alloc (.cells #[.int .i64 sg,.int .i64 st,.slice A m p,.slice B k q,.slice C n r] 45)).alloc (.cells #[.int .i64 0,.int .i64 0,.slice none 0 0,.slice none 0 0,.slice none 0 0] 45)).heap.size=w.heap.size+2:=by simp
 have hT:=h.later B0
 have C1:=Lib.hid (copied_any sg st A m p B k q C n r o l f _ hT hfa hfb hfc (Nat.le_of_lt hm) (Nat.le_of_lt hk) (Nat.le_of_lt hn))
 go_enter Tryz.func129,Tryz.ntmps129
 go_upto_region 1 with fail
 generalize hW:(w.alloc (.cells #[.int .i64 sg,.int .i64 st,.slice A m p,.slice B k q,.slice C n r] 45)).alloc (.cells #[.int .i64 0,.int .i64 0,.slice none 0 0,.slice none 0 0,.slice none 0 0] 45)=W0 at *
 clear hW h hT hfa hfb hfc
 have HK:=Lib.hid K0
 have SZ:=Lib.hid sz0
 have HB:=Lib.hid B0
 have HZ:=Lib.hid Z0
 clear K0 sz0 B0 Z0
 go_wp2_with (with_reducible refine load_t rfl (.tmp 3) rfl w.heap.size rfl HK.out ?_)
 refine C1.out.mono ?_
 rintro e' w1 ⟨A1,p1,B1,q1,C1',r1,rfl,R1,b1⟩
 rw [SZ.out] at R1
 have K1:=Lib.hid (HK.out.later b1)
 have Z1:=HZ.out.later b1
 have B1':=Ge.trans HB.out b1
 have sz1:w.heap.size+2≤w1.heap.size:=by have:=b1.size; rw [SZ.out] at this; exact this
 clear C1 HK HZ HB SZ b1
 go_upto_region 2 with (with_reducible refine store_t rfl (.tmp 3) (.tmp 8) rfl w.heap.size rfl rfl K1.out ?_)
 have O2:Own3 45 (w.heap.size+2) w.heap.size sg st A1 m p1 B1 k q1 C1' n r1 o l f (w1.setRow w.heap.size (csT sg st A1 m p1 B1 k q1 C1' n r1)):=⟨K1.out.row _,by omega,R1.row (by omega),by rw [row_size]; exact sz1⟩
 have Z2:Blk (w1.setRow w.heap.size (csT sg st A1 m p1 B1 k q1 C1' n r1)) (w.heap.size+1) 45 (csT 0 0 none 0 0 none 0 0 none 0 0):=Z1.far (by omega) _
 have B2:Below w.heap.size w (w1.setRow w.heap.size (csT sg st A1 m p1 B1 k q1 C1' n r1)):=below_row B1' (Nat.le_refl _) _
 clear K1 Z1 B1' sz1 R1
 generalize w1.setRow w.heap.size (csT sg st A1 m p1 B1 k q1 C1' n r1)=W2 at *
 have b2:=below1 W2 (.cells #[.int .i64 s] 3)
 obtain ⟨gA,pA,Y2,run2,c2,f2,O4,bl2,kl2⟩:=(O2.later b2).push_a (nb:=W2.heap.size) (x:=s) ((Blk.new W2 3 #[.int .i64 s]).cell 0) (by omega)
 have k2:W2.cell? ⟨w.heap.size,2,none⟩=some (.slice A1 m p1):=O2.z.cell 2
 have Z4:=kl2 _ _ _ (Z2.later b2) (by omega) (by omega)
 have B4:=bl2 w (Ge.trans B2 b2) (Nat.le_refl _)
 have HR2:=Lib.hid run2
 clear run2 bl2 kl2 Z2 B2 O2 b2
 go_upto_region 3 with (at_builtin; refine list_append_run rfl (.tmp 10) (.tmp 12) 40 rfl _ _ rfl rfl HR2.out ?_)
 clear c2 f2 k2 HR2
 generalize Y2.setCell ⟨w.heap.size,2,none⟩ (.slice (some ⟨gA,0,none⟩) (m+1) pA)=W4 at *
 have b4:=below1 W4 (.cells #[.int .i64 0] 3)
 obtain ⟨gB,pB,Y4,run4,c4,f4,O6,bl4,kl4⟩:=(O4.later b4).push_b (nb:=W4.heap.size) (x:=0) ((Blk.new W4 3 #[.int .i64 0]).cell 0) (by omega)
 have k4:W4.cell? ⟨w.heap.size,3,none⟩=some (.slice B1 k q1):=O4.z.cell 3
 have Z6:=kl4 _ _ _ (Z4.later b4) (by omega) (by omega)
 have B6:=bl4 w (Ge.trans B4 b4) (Nat.le_refl _)
 have HR4:=Lib.hid run4
 clear run4 bl4 kl4 Z4 B4 O4 b4
 go_upto_region 4 with (at_builtin; refine list_append_run rfl (.tmp 16) (.tmp 17) 40 rfl _ _ rfl rfl HR4.out ?_)
 clear c4 f4 k4 HR4
 generalize Y4.setCell ⟨w.heap.size,3,none⟩ (.slice (some ⟨gB,0,none⟩) (k+1) pB)=W6 at *
 have b6:=below1 W6 (.cells #[.int .u64 first] 38)
 obtain ⟨gC,pC,Y6,run6,c6,f6,O8,bl6,kl6⟩:=(O6.later b6).push_c (nb:=W6.heap.size) (x:=first) ((Blk.new W6 38 #[.int .u64 first]).cell 0) (by omega)
 have k6:W6.cell? ⟨w.heap.size,4,none⟩=some (.slice C1' n r1):=O6.z.cell 4
 have Z8:=kl6 _ _ _ (Z6.later b6) (by omega) (by omega)
 have B8:=bl6 w (Ge.trans B6 b6) (Nat.le_refl _)
 have HR6:=Lib.hid run6
 clear run6 bl6 kl6 Z6 B6 O6 b6
 go_upto_region 5 with (at_builtin; refine list_append_run rfl (.tmp 21) (.tmp 23) 43 rfl _ _ rfl rfl HR6.out ?_)
 clear c6 f6 k6 HR6
 generalize Y6.setCell ⟨w.heap.size,4,none⟩ (.slice (some ⟨gC,0,none⟩) (n+1) pC)=W8 at *
 have HK:=Lib.hid O8.z
 have HZ:=Lib.hid Z8
 clear Z8
 go_wp2_with (first
  | (with_reducible refine load_t rfl (.tmp 3) rfl w.heap.size rfl HK.out ?_)
  | (with_reducible refine store_t rfl (.tmp 6) (.tmp 26) rfl (w.heap.size+1) rfl rfl HZ.out ?_))
 exact bodyPost_ret (res_t1 rfl _ _ (w.heap.size+1) rfl (HZ.out.row _)) rfl ⟨_,pA,_,pB,_,pC,rfl,(O8.s.row (by omega)).wide (by omega),below_row B8 (by omega) _⟩
open Go.RowKit Go.Lib
set_option linter.unusedVariables false
theorem own_cap {w:World} {base:Nat} {e:TypeId} {size n m p:Nat} {A:Option Addr} {xs:List Value} (h:w.ownsRow base e size (.slice A m p) n xs):m≤p:=by
 rcases h.2 with ⟨h,_⟩ | ⟨g,cap,cur,h,_,_,hc,_⟩
 ·injection h with _ h1 h2; omega
 ·injection h with _ h1 h2; omega
def ResP (t:Tab) (y:Int) (w:World) (en:Ending) (w' : World):Prop :=
 ∃ A m p B k q C n r,en=.returned (.tuple #[.agg #[.int .i64 t.sg,.int .i64 t.st,.slice A m p,.slice B k q,.slice C n r],.int .i64 y])∧TIn w' A m B k C n t.o t.l t.f∧m≤p∧(Fresh w' w.heap.size A m∧Fresh w' w.heap.size B k∧Fresh w' w.heap.size C n)∧Below w.heap.size w w'
def LstP (l:List Int) (w:World) (en:Ending) (w' : World):Prop:=∃ A m p,en=.returned (.slice A m p)∧Sl .i64 w' A m l∧Below w.heap.size w w'
theorem fresh_nil (W:World) (b:Nat) (A:Option Addr):Fresh W b A 0:=fun h=>absurd h (by omega)
theorem Rows3.fresh {W:World} {base:Nat} {A:Option Addr} {m p:Nat} {B:Option Addr} {k q:Nat} {C:Option Addr} {n r:Nat} {o l f:List Int} (h:Rows3 base A m p B k q C n r o l f W):Fresh W base A m∧Fresh W base B k∧Fresh W base C n:=⟨own_fresh h.a,own_fresh h.b,own_fresh h.c⟩
theorem zero_res (y:Int) (w w' : World) (hb:Below w.heap.size w w'):ResP zeroT y w (.returned (.tuple #[.agg #[.int .i64 0,.int .i64 0,.slice none 0 0,.slice none 0 0,.slice none 0 0],.int .i64 y])) w' :=
 ⟨none,0,0,none,0,0,none,0,0,rfl,TIn.zero _,Nat.le_refl _,⟨fresh_nil _ _ _,fresh_nil _ _ _,fresh_nil _ _ _⟩,hb⟩
theorem new_any (sg st first:Int) (w:World):Calls Tryz.prog 82 #[.int .i64 sg,.int .i64 st,.int .u64 first] w (ResP (if sizeB sg st=true then newT sg st first else zeroT) (if sizeB sg st=true then 0 else 1) w):=by
 have K0:=Lib.hid (show Blk (w.alloc (.cells #[.int .i64 0,.int .i64 0,.slice none 0 0,.slice none 0 0,.slice none 0 0] 45)) w.heap.size 45 (csT 0 0 none 0 0 none 0 0 none 0 0) from Blk.new w _ _)
 have B0:=Lib.hid (below1 w (.cells #[.int .i64 0,.int .i64 0,.slice none 0 0,.slice none 0 0,.slice none 0 0] 45))
 have hv:=Tryz.zeroValue45
 obtain ⟨b,Hb⟩:∃ b,Hid (sizeB sg st=b):=⟨_,Lib.hid rfl⟩
 rw [Hb.out]
 cases b with
 | false =>
   rw [if_neg (by decide),if_neg (by decide)]
   go_enter Tryz.func82,Tryz.ntmps82
   go_wp2_with fail
   refine (size_is sg st _ _ Hb.out).mono ?_
   rintro e w' ⟨rfl,rfl⟩
   go_wp2_with (with_reducible refine store_t rfl (.tmp 6) (.tmp 12) rfl w.heap.size rfl rfl K0.out ?_)
   exact bodyPost_ret (res_t2 (y:=.int .i64 1) rfl _ _ w.heap.size rfl rfl (K0.out.row _)) rfl (zero_res 1 w _ (below_row B0.out (Nat.le_refl _) _))
 | true =>
   rw [if_pos rfl,if_pos rfl]
   have C1:=Lib.hid (fun W=>opened_any sg st none 0 0 none 0 0 none 0 0 [] [] [] 0 first W (TIn.zero W) (.inl ⟨rfl,rfl⟩) (.inl ⟨rfl,rfl⟩) (.inl ⟨rfl,rfl⟩) (by omega) (by omega) (by omega))
   go_enter Tryz.func82,Tryz.ntmps82
   go_wp2_with fail
   refine (size_is sg st _ _ Hb.out).mono ?_
   rintro e w' ⟨rfl,rfl⟩
   go_wp2_with fail
   refine (C1.out _).mono ?_
   rintro e' w1 ⟨A1,p1,B1,q1,C1',r1,rfl,R1,b1⟩
   have K1:=Lib.hid (K0.out.later b1)
   have BB:=Lib.hid (Ge.trans B0.out b1)
   have RR:=Lib.hid R1
   clear R1 b1 C1
   go_wp2_with (with_reducible refine store_t rfl (.tmp 6) (.tmp 17) rfl w.heap.size rfl rfl K1.out ?_)
   have R2:=RR.out.row (b:=w.heap.size) (cs:=csT sg st A1 (0+1) p1 B1 (0+1) q1 C1' (0+1) r1) (by simp)
   exact bodyPost_ret (res_t2 rfl _ _ w.heap.size rfl rfl (K1.out.row _)) rfl ⟨A1,1,p1,B1,1,q1,C1',1,r1,rfl,R2.tin,own_cap R2.a,(R2.wide (by simp)).fresh,below_row BB.out (Nat.le_refl _) _⟩
structure FrI (w:World) (sg st:Int) (A:Option Addr) (m p:Nat) (B:Option Addr) (k q:Nat) (C:Option Addr) (n r:Nat) (o:List Int) (i:Nat) (D:Option Addr) (c e:Nat) (W:World):Prop where
 b:Below w.heap.size w W
 z:Blk W w.heap.size 53 (csT sg st A m p B k q C n r)
 d:W.ownsRow (w.heap.size+1) 3 1 (.slice D c e) c (iv .i64 (freeTo o i))
theorem FrI.later {w W W' : World} {sg st:Int} {A:Option Addr} {m p:Nat} {B:Option Addr} {k q:Nat} {C:Option Addr} {n r:Nat} {o:List Int} {i:Nat} {D:Option Addr} {c e:Nat} (h:FrI w sg st A m p B k q C n r o i D c e W) (hb:Below W.heap.size W W'):FrI w sg st A m p B k q C n r o i D c e W':=⟨Ge.trans h.b hb,h.z.later hb,own_later h.d hb⟩
set_option maxHeartbeats 2000000 in
theorem rfree_main (N:Nat) (st:Int) (A:Option Addr) (m p:Nat) (B:Option Addr) (k q:Nat) (C:Option Addr) (n r:Nat) (o l f:List Int) (w:World) (h:TIn w A m B k C n o l f) (hm:m≤maxLen) (hN:N≤16) :
 Calls Tryz.prog 67 #[.agg #[.int .i64 (N:Int),.int .i64 st,.slice A m p,.slice B k q,.slice C n r]] w (LstP (freeTo o N) w):=by
 have HT:=Lib.hid h
 have hb0:=below1 w (.cells #[.int .i64 (N:Int),.int .i64 st,.slice A m p,.slice B k q,.slice C n r] 53)
 have hb1:=below1 (w.alloc (.cells #[.int .i64 (N:Int),.int .i64 st,.slice A m p,.slice B k q,.slice C n r] 53)) (.cells #[] 3)
 have I0:Hid (FrI w (N:Int) st A m p B k q C n r o 0 (some ⟨w.heap.size+1,0,none⟩) 0 0 ((w.alloc (.cells #[.int .i64 (N:Int),.int .i64 st,.slice A m p,.slice B k q,.slice C n r] 53)).alloc (.cells #[] 3))):=Lib.hid
  ⟨Ge.trans hb0 hb1,(Blk.new w _ _).later hb1,by
   have:=World.ownsRow_lit (base:=w.heap.size+1) (e:=3) (size:=1) (w.alloc (.cells #[.int .i64 (N:Int),.int .i64 st,.slice A m p,.slice B k q,.slice C n r] 53)) #[] 0 (by simp) (Nat.zero_le _) rfl
   rw [show (w.alloc (.cells #[.int .i64 (N:Int),.int .i64 st,.slice A m p,.slice B k q,.slice C n r] 53)).heap.size=w.heap.size+1 by simp] at this
   rw [freeTo_zero]
   exact this⟩
 clear hb0 hb1 h
 go_enter Tryz.func67,Tryz.ntmps67
 go_wp2_with fail
 go_loopg [3,4] N (fun gk s3 s4 wr=>∃ i:Nat,∃ D c e,i≤N∧gk=N-i∧s4=.int .i64 i∧s3=.slice D c e∧Hid (FrI w (N:Int) st A m p B k q C n r o i D c e wr))
 case atStart=>exact ⟨0,_,_,_,by omega,rfl,rfl,rfl,I0⟩
 case round =>
  obtain ⟨i,D,c,e,hi,hgk,rfl,rfl,HI⟩:=hrel
  have HG:=Lib.hid hgk
  clear hgk
  have c0:wr.cell? ⟨w.heap.size,0,none⟩=some (.int .i64 (N:Int)):=HI.out.z.cell 0
  by_cases hlt:i<N
  ·have hlti:(i:Int)<(N:Int):=by omega
   have HZ:=Lib.hid HI.out.z
   obtain ⟨y,HY⟩:∃ y,Hid (idx o (i:Int)=y):=⟨_,Lib.hid rfl⟩
   have K:=Lib.hid (in_is (N:Int) st A m p B k q C n r o l f (i:Int) y wr (HT.out.later HI.out.b) hm HY.out)
   by_cases hy:y<0
   ·have HO:Hid ((i:Int) ∉ o):=Lib.hid (idx_neg.1 (by rw [HY.out]; exact hy))
    go_wp2_with (with_reducible refine load_r rfl (.tmp 1) rfl w.heap.size rfl HZ.out ?_)
    refine K.out.mono ?_
    rintro e' w1 ⟨rfl,hb⟩
    have I1:=HI.out.later hb
    have hbb:=below1 w1 (.cells #[.int .i64 (i:Int)] 3)
    have I2:=I1.later hbb
    have hcl:c<1000:=by
     have:=I1.d.1
     rw [iv_len] at this
     have:=freeTo_len o i
     omega
    obtain ⟨g,e2,W5,hrun,own5,g5,hat,hg⟩:=push_run (T:=40) Tryz.underlying40 infoI rfl I2.d hcl ((Blk.new w1 3 #[.int .i64 (i:Int)]).cell 0) (by have:=I2.z.lt; omega)
    have hrow:∀ j,ob D=some j→w.heap.size+1≤j:=fun j hj=>(I2.d.lt j (by rw [ob_eq]; exact hj)).1
    have I5:Hid (FrI w (N:Int) st A m p B k q C n r o (i+1) (some ⟨g,0,none⟩) (c+1) e2 W5):=Lib.hid
     ⟨I2.b.grown g5 I2.b.size (fun j hj=>by have:=hrow j hj; omega),blk_grown I2.z g5 (fun e=>by have:=hrow _ e.symm; omega),by rw [freeTo_yes HO.out]; exact own5⟩
    have HR:=Lib.hid hrun
    clear hrun own5 g5 hat hg hrow I1 I2 hbb hb K c0
    go_wp2_with (at_builtin; refine list_append_run rfl (.tmp 16) (.tmp 18) 40 rfl _ _ rfl rfl HR.out ?_)
    go_roundg (N-(i+1))
    case measure=>have:=HG.out; omega
    case rel=>exact ⟨i+1,_,_,_,by omega,rfl,by go_num,rfl,I5⟩
   ·have HO:Hid ((i:Int)∈o):=Lib.hid (Decidable.byContradiction fun hn=>hy (by rw [← HY.out]; exact idx_neg.2 hn))
    go_wp2_with (with_reducible refine load_r rfl (.tmp 1) rfl w.heap.size rfl HZ.out ?_)
    refine K.out.mono ?_
    rintro e' w1 ⟨rfl,hb⟩
    have I1:Hid (FrI w (N:Int) st A m p B k q C n r o (i+1) D c e w1):=Lib.hid (by
     have:=HI.out.later hb
     exact ⟨this.b,this.z,by rw [freeTo_no HO.out]; exact this.d⟩)
    clear hb K c0
    go_wp2_with fail
    go_roundg (N-(i+1))
    case measure=>have:=HG.out; omega
    case rel=>exact ⟨i+1,D,c,e,by omega,rfl,by go_num,rfl,I1⟩
  ·obtain rfl:i=N:=by omega
   have hlti:¬ (i:Int)<(i:Int):=by omega
   go_wp2_with fail
   go_ret
   exact ⟨D,c,e,rfl,own_sl HI.out.d,HI.out.b⟩
theorem rfree_any (sg st:Int) (A:Option Addr) (m p:Nat) (B:Option Addr) (k q:Nat) (C:Option Addr) (n r:Nat) (o l f:List Int) (w:World) (h:TIn w A m B k C n o l f) (hm:m≤maxLen) (hs:0≤sg∧sg≤16):Calls Tryz.prog 67 #[.agg #[.int .i64 sg,.int .i64 st,.slice A m p,.slice B k q,.slice C n r]] w (LstP (freeT ⟨sg,st,o,l,f⟩) w):=by
 obtain ⟨N,rfl⟩:=Int.eq_ofNat_of_zero_le hs.1
 exact rfree_main N st A m p B k q C n r o l f w h hm (by omega)
open Go.RowKit Go.Lib Go.Shelf
set_option linter.unusedVariables false
attribute [local go_sem] Oper.semAt_some
theorem freeTo_mono (o:List Int) {i j:Nat} (h:i≤j):freeTo o i <+: freeTo o j:=by
 induction j with
 | zero=>obtain rfl:i=0:=by omega
         exact List.prefix_refl _
 | succ j ih =>
   by_cases hi:i=j+1
   ·subst hi; exact List.prefix_refl _
   ·refine (ih (by omega)).trans ?_
    by_cases hm:(j:Int)∈o
    ·rw [freeTo_no hm]; exact List.prefix_refl _
    ·rw [freeTo_yes hm]; exact List.prefix_append _ _
set_option maxRecDepth 100000 in
set_option maxHeartbeats 2000000 in
theorem free1_in (n:Nat) (hn:1≤n) (lp Bt N:Nat) (st:Int) (A:Option Addr) (m p:Nat) (B:Option Addr) (k q:Nat) (C:Option Addr) (n0 r:Nat) (o:List Int) (w0:World) (K:Blk w0 Bt 45 (csT (N:Int) st A m p B k q C n0 r)) (hS:Sl .i64 w0 A m o) (hm:m≤maxLen) (hN:N≤16) (J Jx:List Int→World→Prop)
 (hY:∀ pre x W,J pre W→pre.length<(freeTo o N).length→YieldAt Fence.wide (n-1) Tryz.prog lp #[.int .i64 x] W fun e W' =>
  (e=.returned (.bool true)∧J (pre++[x]) W'∧Below w0.heap.size W W')∨(e=.returned (.bool false)∧Jx (pre++[x]) W'))
 (W:World) (hW:Below w0.heap.size w0 W) (h0:J [] W) :
 CallsIn Fence.wide n Tryz.prog 202 #[.func (.yield lp) #[] #[],.pointer (some ⟨Bt,0,none⟩)] W fun e W'=>(∃ v,e=.returned v) ∧
  ((∃ ys,ys=freeTo o N∧J ys W')∨(∃ pre,pre <+: freeTo o N∧Jx pre W')):=by
 have hro:Fence.wide.round=none:=rfl
 have HK:=Lib.hid K
 have HS:=Lib.hid hS
 have c0:W.cell? ⟨Bt,0,none⟩=some (.int .i64 (N:Int)):=((bcell hW).1 Bt 0 K.lt).trans (K.cell 0)
 refine callsIn_of_wp Tryz.func202 rfl trivial ?_ hro
 simp only [Tryz.ntmps202,List.size_toArray,List.length_cons,List.length_nil,Nat.reduceAdd,Nat.reduceSub,Array.replicate_succ,Array.replicate_zero,List.push_toArray,List.append_toArray,List.nil_append,List.cons_append]
 gi_wp2
 gi_loopw [6] (fun i wr=>∃ k:Nat,k≤N∧i=.int .i64 k∧J (freeTo o k) wr∧Below w0.heap.size w0 wr)
  (fun i _=>N-(intOf i).toNat)
 case atStart=>exact ⟨0,Nat.zero_le _,rfl,by rw [freeTo_zero]; exact h0,hW⟩
 case round =>
  obtain ⟨k1,hk,rfl,hJs,hnx⟩:=hrel
  have HX:=Lib.hid hnx
  clear hnx hW K hS c0 h0
  by_cases hlt:k1<N
  ·have c2:wr.cell? ⟨Bt,2,none⟩=some (.slice A m p):=((bcell HX.out).1 Bt 2 HK.out.lt).trans (HK.out.cell 2)
   cases hd:decide ((k1:Int)∈o) with
   | true =>
     have HD:=Lib.hid (of_decide_eq_true hd)
     have C:=Lib.hid (has_is A m p o (k1:Int) true wr (HS.out.later HX.out) hm hd)
     clear hd
     gi_wp2_with (refine And.intro (a:=True) trivial ?_; gi_at_call 187; refine (callsIn_wide.2 C.out).mono ?_; rintro e w' ⟨rfl,rfl⟩)
     refine ⟨fun _ h=>(by cases h),?_⟩
     gi_wp2
     go_roundw
     case rel=>exact ⟨k1+1,by omega,by simp,by rw [freeTo_no HD.out]; exact hJs,HX.out⟩
     case measure=>simp [intOf]; omega
   | false =>
     have HD:=Lib.hid (of_decide_eq_false hd)
     have C:=Lib.hid (has_is A m p o (k1:Int) false wr (HS.out.later HX.out) hm hd)
     have hlen:(freeTo o k1).length<(freeTo o N).length:=by
      have:=(freeTo_mono o (show k1+1≤N by omega)).length_le
      rw [freeTo_yes HD.out,List.length_append] at this
      simp at this
      omega
     obtain ⟨fn,tmps,assign,body,hy,hR⟩:=hY _ (k1:Int) wr hJs hlen
     clear hd
     gi_wp2_with (refine And.intro (a:=True) trivial ?_; gi_at_call 187; refine (callsIn_wide.2 C.out).mono ?_; rintro e w' ⟨rfl,rfl⟩)
     refine hR.mono ?_
     rintro e W3 (⟨rfl,hJ3,hk3⟩ | ⟨rfl,hJx3⟩)
     ·gi_wp2
      go_roundw
      case rel=>exact ⟨k1+1,by omega,by simp,by rw [freeTo_yes HD.out]; exact hJ3,HX.out.trans hk3⟩
      case measure=>simp [intOf]; omega
     ·gi_wp2
      refine bodyPost_ret (results_none rfl _ _ _) rfl ?_
      exact ⟨⟨_,rfl⟩,.inr ⟨_,by rw [← freeTo_yes HD.out]; exact freeTo_mono o (by omega),hJx3⟩⟩
  ·obtain rfl:k1=N:=by omega
   gi_wp2
   go_end0
   exact ⟨⟨_,rfl⟩,.inl ⟨_,rfl,hJs⟩⟩
theorem free_is (sg st:Int) (A:Option Addr) (m p:Nat) (B:Option Addr) (k q:Nat) (C:Option Addr) (n r:Nat) (w:World):Calls Tryz.prog 177 #[.agg #[.int .i64 sg,.int .i64 st,.slice A m p,.slice B k q,.slice C n r]] w fun e w'=>e=.returned (.func (.func 202) #[] #[.pointer (some ⟨w.heap.size,0,none⟩)])∧w.alloc (.cells #[.int .i64 sg,.int .i64 st,.slice A m p,.slice B k q,.slice C n r] 45)=w':=by
 have hmf:∀ (fn:Fn) (first cap:Array Value) (w:World),(Instr.makeFunc fn first cap).run Tryz.prog w=.ok (.func fn first cap) w:=fun _ _ _ _=>rfl
 go_enter Tryz.func177,Tryz.ntmps177
 go_wp2_with fail
 go_ret
 exact ⟨rfl,rfl⟩
theorem free_stops (n:Nat) (hn:1≤n) (Bt N:Nat) (st:Int) (A:Option Addr) (m p:Nat) (B:Option Addr) (k q:Nat) (C:Option Addr) (n0 r:Nat) (o:List Int) (w:World) (K:Blk w Bt 45 (csT (N:Int) st A m p B k q C n0 r)) (hS:Sl .i64 w A m o) (hm:m≤maxLen) (hN:N≤16) :
 SeqStopsK Fence.wide n Tryz.prog 202 #[.pointer (some ⟨Bt,0,none⟩)] (fun x:Int=>#[Value.int .i64 x]) (Below w.heap.size) (fun ys=>ys=freeTo o N) (fun pre=>pre <+: freeTo o N) (freeTo o N).length w:=fun l J Jx W hW _ _ hY h0 =>
 free1_in n hn l Bt N st A m p B k q C n0 r o w K hS hm hN J Jx hY W hW h0
set_option maxRecDepth 100000 in
set_option maxHeartbeats 2000000 in
theorem appseq_in (n:Nat) (hn:3≤n) (Bt N:Nat) (st:Int) (A:Option Addr) (m p:Nat) (B:Option Addr) (k q:Nat) (C:Option Addr) (n0 r:Nat) (o:List Int) (w:World) (K:Blk w Bt 45 (csT (N:Int) st A m p B k q C n0 r)) (hS:Sl .i64 w A m o) (hm:m≤maxLen) (hN:N≤16) :
 CallsIn Fence.wide n Tryz.prog 201 #[.slice none 0 0,.func (.func 202) #[] #[.pointer (some ⟨Bt,0,none⟩)]] w (LstP (freeTo o N) w):=by
 have hro:Fence.wide.round=none:=rfl
 have h1:1≤n:=by omega
 have hlen:=freeTo_len o N
 obtain ⟨i0,hi,hz0,hz1,hz2⟩:=info_of infoI
 refine callsIn_of_wp_marks Tryz.func201 rfl trivial ?_ hro
 simp only [Tryz.ntmps201,List.size_toArray,List.length_cons,List.length_nil,Nat.reduceAdd,Nat.reduceSub,Array.replicate_succ,Array.replicate_zero,List.push_toArray,List.append_toArray,List.nil_append,List.cons_append]
 gi_wp2
 have bO:=Boxed.new w 40 (.slice none 0 0)
 have hB0:Below w.heap.size w (w.alloc (.cells #[.slice none 0 0] 40)):=below1 _ _
 refine wpIn_rangeFunc_ownG hro h1 (gf:=202) (lb:=#[.pointer (some ⟨Bt,0,none⟩)]) rfl trivial (enters_of Tryz.func202 (by kernel_rfl) rfl)
  (free_stops (n-1) (by omega) Bt N st A m p B k q C n0 r o w K hS hm hN) belowK_t (belowK_b (by simp)) hB0 (fun _=>rfl)
  (fun pre W=>(∃ v,Boxed W w.heap.size 40 v∧W.ownsRow w.heap.size 3 1 v pre.length (iv .i64 pre)∧True)∧Below w.heap.size w W)
  (fun _ _ _=>False)
  (OwnFrom.and (Own.from (holdsRow_own w.heap.size w.heap.size 40 3 1 (fun pre=>pre.length) (fun pre=>iv .i64 pre) (fun pre v=>True)) _) (ownFrom_below (Nat.le_refl _) (by simp)))
  (fun _ _ _ _ _ hs _ _=>hs)
  ⟨⟨_,bO,World.ownsRow_nil _ _ _ _,trivial⟩,hB0⟩
  (fun x=>{ tmps:=#[.slice none 0 0,.func (.func 202) #[] #[.pointer (some ⟨Bt,0,none⟩)],.pointer (some ⟨w.heap.size,0,none⟩),undef,.slice none 0 0,.int .i64 x,.func (.func 202) #[] #[.pointer (some ⟨Bt,0,none⟩)],.int .i64 x,undef,undef,undef,undef,undef],defers:=[] }) ?assign ?body ?done ?stop
 case assign =>
  intro l x W K hK
  gi_wp2
  exact hK
 case body =>
  rintro l pre x W ⟨⟨v,hv,hrow,_⟩,hB⟩ hlt
  have hc:=hv.cell
  gi_wp2_with (gi_at_builtin; refine wpListIn_append_own _ rfl _ _ 40 rfl w.heap.size 3 i0 (.int .i64 0) 1 8 Tryz.underlying40 hi hz0 hz1 hz2 rfl (by decide) _ _ _ rfl (hrow.alloc _) ⟨W.heap.size,0,none⟩ 1 1 [.int .i64 x] rfl rfl (cell_one_new _ _ _) (by simp [Value.oneCell']) (by simp only [maxLen]; omega) (by omega) (by have:=hB.size; simp; omega) ?_; intro v' w1 hown' hgrow _; obtain ⟨g',cap',rfl⟩:=ownsRow_succ hown'; obtain ⟨hv1,hv2,hr2,hk2,hb2⟩:=hv.appended (by decide) hrow hB.size (Nat.le_refl _) hown' hgrow; have hc1:=hv1.cell; have hf1:=hv1.frozen)
  exact ⟨hk2.from _,hb2,⟨_,hv2,by rw [← iv_snoc]; simpa using hr2,trivial⟩,hB.trans hb2⟩
 case done =>
  rintro D ys W hD rfl ⟨⟨v,hv,hrow,_⟩,hB⟩ hK
  have hc:=hv.cell
  gi_wp2
  refine ⟨by simp,.inl ⟨_,_,rfl,run_takeDeferred hK,?_⟩⟩
  obtain ⟨A',p',rfl⟩:=own_slice hrow
  exact ⟨_,results_tmp rfl _ _ _,A',_,p',rfl,own_sl (ownsRow_putObj hrow _ hK rfl),hB.trans (belowK_b (w:=w) (Nat.le_refl _) W D _ _ (by simp at hD; omega) hK rfl rfl)⟩
 case stop =>
  rintro D c pre W _ _ h _
  exact h.elim
theorem collect_any (Bt N:Nat) (st:Int) (A:Option Addr) (m p:Nat) (B:Option Addr) (k q:Nat) (C:Option Addr) (n0 r:Nat) (o:List Int) (w:World) (K:Blk w Bt 45 (csT (N:Int) st A m p B k q C n0 r)) (hS:Sl .i64 w A m o) (hm:m≤maxLen) (hN:N≤16) :
 Calls Tryz.prog 176 #[.func (.func 202) #[] #[.pointer (some ⟨Bt,0,none⟩)]] w (LstP (freeTo o N) w):=by
 have H:=Lib.hid (callsIn_wide.1 (appseq_in 3 (by omega) Bt N st A m p B k q C n0 r o w K hS hm hN))
 clear K hS
 go_enter Tryz.func176,Tryz.ntmps176
 go_wp2_with fail
 refine H.out.mono ?_
 rintro e w1 ⟨A1,m1,p1,rfl,h1,hb⟩
 go_wp2_with fail
 go_ret
 exact ⟨A1,m1,p1,rfl,h1,hb⟩
theorem tfree_main (N:Nat) (st:Int) (A:Option Addr) (m p:Nat) (B:Option Addr) (k q:Nat) (C:Option Addr) (n r:Nat) (o l f:List Int) (w:World) (h:TIn w A m B k C n o l f) (hm:m≤maxLen) (hN:N≤16) :
 Calls Tryz.prog 136 #[.agg #[.int .i64 (N:Int),.int .i64 st,.slice A m p,.slice B k q,.slice C n r]] w (LstP (freeTo o N) w):=by
 have K0:Blk (w.alloc (.cells #[.int .i64 (N:Int),.int .i64 st,.slice A m p,.slice B k q,.slice C n r] 45)) w.heap.size 45 (csT (N:Int) st A m p B k q C n r):=Blk.new w _ _
 have B0:=below1 w (.cells #[.int .i64 (N:Int),.int .i64 st,.slice A m p,.slice B k q,.slice C n r] 45)
 have b1:=below1 (w.alloc (.cells #[.int .i64 (N:Int),.int .i64 st,.slice A m p,.slice B k q,.slice C n r] 45)) (.cells #[.int .i64 (N:Int),.int .i64 st,.slice A m p,.slice B k q,.slice C n r] 45)
 have HK:=Lib.hid K0
 have HB:=Lib.hid (Ge.trans B0 b1)
 have K1:Blk ((w.alloc (.cells #[.int .i64 (N:Int),.int .i64 st,.slice A m p,.slice B k q,.slice C n r] 45)).alloc (.cells #[.int .i64 (N:Int),.int .i64 st,.slice A m p,.slice B k q,.slice C n r] 45)) (w.heap.size+1) 45 (csT (N:Int) st A m p B k q C n r):=Blk.at_ _ _ _ (by simp)
 have H:=Lib.hid (collect_any (w.heap.size+1) N st A m p B k q C n r o _ K1 ((h.a.later B0).later b1) hm hN)
 clear K0 B0 b1 K1 h
 go_enter Tryz.func136,Tryz.ntmps136
 go_wp2_with (first
  | (with_reducible refine load_t rfl (.tmp 1) rfl w.heap.size rfl HK.out ?_)
  | (go_at_call 177; refine (free_is (N:Int) st A m p B k q C n r _).mono ?_; rintro e w' ⟨rfl,rfl⟩))
 refine H.out.mono ?_
 rintro e w1 ⟨A1,m1,p1,rfl,h1,hb⟩
 go_wp2_with fail
 go_ret
 exact ⟨A1,m1,p1,rfl,h1,Ge.trans HB.out hb⟩
theorem tfree_any (sg st:Int) (A:Option Addr) (m p:Nat) (B:Option Addr) (k q:Nat) (C:Option Addr) (n r:Nat) (o l f:List Int) (w:World) (h:TIn w A m B k C n o l f) (hm:m≤maxLen) (hs:0≤sg∧sg≤16):Calls Tryz.prog 136 #[.agg #[.int .i64 sg,.int .i64 st,.slice A m p,.slice B k q,.slice C n r]] w (LstP (freeT ⟨sg,st,o,l,f⟩) w):=by
 obtain ⟨N,rfl⟩:=Int.eq_ofNat_of_zero_le hs.1
 exact tfree_main N st A m p B k q C n r o l f w h hm (by omega)
open Go.RowKit Go.Lib Go.Shelf
set_option linter.unusedVariables false
attribute [local go_sem] Oper.semAt_some
theorem cell_new_l (w:World) (v:Value) (t:TypeId):(w.alloc (.cells #[v] t)).cell? ⟨w.heap.size,0,none⟩=some v∧(w.alloc (.cells #[v] t)).frozen? ⟨w.heap.size,0,none⟩=false :=
 ⟨(Blk.new w t #[v]).cell 0,(Blk.new w t #[v]).frozen 0⟩
def LowP (l:List Int) (w:World) (en:Ending) (w' : World):Prop:=en=.returned (.tuple #[.int .i64 (l.headD 0),.bool (!l.isEmpty)])∧Below w.heap.size w w'
theorem res_low {fn:Func} {p' q' : Tmp} (h:fn.results=#[.cell p' 3,.cell q' 4]) (tmps:Array Value) (W:World) (b b' : Nat) {x y:Value} (hp:tmps.getD p' undef=.pointer (some ⟨b,0,none⟩)) (hq:tmps.getD q' undef=.pointer (some ⟨b',0,none⟩)) (L:W.cell? ⟨b,0,none⟩=some x) (M:W.cell? ⟨b',0,none⟩=some y) :
 (results fn tmps).run Tryz.prog W=.ok (.tuple #[x,y]) W:=by
 have hp' : tmps[p']?.getD undef=.pointer (some ⟨b,0,none⟩):=by simpa using hp
 have hq' : tmps[q']?.getD undef=.pointer (some ⟨b',0,none⟩):=by simpa using hq
 simp [results,h,hp',hq',asAddr,go_sem,L,M]
set_option maxRecDepth 100000 in
set_option maxHeartbeats 2000000 in
theorem low_in (n:Nat) (hn:3≤n) (N:Nat) (st:Int) (A:Option Addr) (m p:Nat) (B:Option Addr) (k q:Nat) (C:Option Addr) (n0 r:Nat) (o:List Int) (w:World) (hS:Sl .i64 w A m o) (hm:m≤maxLen) (hN:N≤16) :
 CallsIn Fence.wide n Tryz.prog 162 #[.agg #[.int .i64 (N:Int),.int .i64 st,.slice A m p,.slice B k q,.slice C n0 r]] w (LowP (freeTo o N) w):=by
 have hro:Fence.wide.round=none:=rfl
 have h1:1≤n:=by omega
 obtain ⟨w1,E1⟩:∃ w1,Hid (w.alloc (.cells #[.int .i64 (N:Int),.int .i64 st,.slice A m p,.slice B k q,.slice C n0 r] 45)=w1):=⟨_,Lib.hid rfl⟩
 have K1:Blk w1 w.heap.size 45 (csT (N:Int) st A m p B k q C n0 r):=by rw [← E1.out]; exact Blk.new w _ _
 have z1:w1.heap.size=w.heap.size+1:=by rw [← E1.out]; simp
 have B1:Below w.heap.size w w1:=by rw [← E1.out]; exact below1 _ _
 have r0:=cell_new_l w1 (.int .i64 0) 3
 have r1:=cell_new_l (w1.alloc (.cells #[.int .i64 0] 3)) (.bool false) 4
 obtain ⟨w3,E3⟩:∃ w3,Hid ((w1.alloc (.cells #[.int .i64 0] 3)).alloc (.cells #[.bool false] 4)=w3):=⟨_,Lib.hid rfl⟩
 have z3:w3.heap.size=w.heap.size+1+1+1:=by rw [← E3.out]; simp [z1]
 have B13:Below w1.heap.size w1 w3:=by rw [← E3.out]; exact Ge.trans (below1 _ _) (below1 _ _)
 have c1:w3.cell? ⟨w.heap.size+1,0,none⟩=some (.int .i64 0):=by rw [← z1,← E3.out]; exact ((below1 (w1.alloc (.cells #[.int .i64 0] 3)) _).cell (p:=⟨w1.heap.size,0,none⟩) (by simp)).trans r0.1
 have f1:w3.frozen? ⟨w.heap.size+1,0,none⟩=false:=by rw [← z1,← E3.out]; exact ((below1 (w1.alloc (.cells #[.int .i64 0] 3)) _).frozen (p:=⟨w1.heap.size,0,none⟩) (by simp)).trans r0.2
 have c2:w3.cell? ⟨w.heap.size+1+1,0,none⟩=some (.bool false):=by rw [← z1,← E3.out]; rw [World.size_alloc] at r1; exact r1.1
 have f2:w3.frozen? ⟨w.heap.size+1+1,0,none⟩=false:=by rw [← z1,← E3.out]; rw [World.size_alloc] at r1; exact r1.2
 have K3:=K1.later B13
 have B3:=Ge.trans B1 B13
 obtain ⟨w4,E4⟩:∃ w4,Hid (w3.alloc (.cells #[.int .i64 (N:Int),.int .i64 st,.slice A m p,.slice B k q,.slice C n0 r] 45)=w4):=⟨_,Lib.hid rfl⟩
 have B34:Below w3.heap.size w3 w4:=by rw [← E4.out]; exact below1 _ _
 have K4:Blk w4 (w.heap.size+1+1+1) 45 (csT (N:Int) st A m p B k q C n0 r):=by rw [← E4.out]; exact Blk.at_ _ _ _ z3
 have z4:w4.heap.size=w.heap.size+1+1+1+1:=by rw [← E4.out]; simp [z3]
 have B4:=Ge.trans B3 B34
 have c14:=((bcell B34).1 (w.heap.size+1) 0 (by omega)).trans c1
 have f14:=((bcell B34).2 (w.heap.size+1) 0 (by omega)).trans f1
 have c24:=((bcell B34).1 (w.heap.size+1+1) 0 (by omega)).trans c2
 have f24:=((bcell B34).2 (w.heap.size+1+1) 0 (by omega)).trans f2
 have S4:=hS.later B4
 have HF:Hid (∀ w,Calls Tryz.prog 177 #[.agg #[.int .i64 (N:Int),.int .i64 st,.slice A m p,.slice B k q,.slice C n0 r]] w _):=Lib.hid (fun w=>free_is (N:Int) st A m p B k q C n0 r w)
 have HK3:=Lib.hid K3
 have i1:w3.cell? ⟨w.heap.size,0,none⟩=some (.int .i64 (N:Int)):=K3.cell 0
 have i2:w3.cell? ⟨w.heap.size,1,none⟩=some (.int .i64 st):=K3.cell 1
 have i3:w3.cell? ⟨w.heap.size,2,none⟩=some (.slice A m p):=K3.cell 2
 have i4:w3.cell? ⟨w.heap.size,3,none⟩=some (.slice B k q):=K3.cell 3
 have i5:w3.cell? ⟨w.heap.size,4,none⟩=some (.slice C n0 r):=K3.cell 4
 clear c1 f1 c2 f2 r0 r1 K1 B1 B13 K3 B3 hS
 refine callsIn_of_wp_marks Tryz.func162 rfl trivial ?_ hro
 simp only [Tryz.ntmps162,List.size_toArray,List.length_cons,List.length_nil,Nat.reduceAdd,Nat.reduceSub,Array.replicate_succ,Array.replicate_zero,List.push_toArray,List.append_toArray,List.nil_append,List.cons_append]
 gi_wp2_with (refine And.intro (a:=True) trivial ?_; gi_at_call 177; refine (callsIn_wide.2 (HF.out _)).mono ?_; rintro e w' ⟨rfl,rfl⟩)
 rw [E1.out,E3.out,E4.out]
 clear i1 i2 i3 i4 i5 HF HK3 B34 E1 E3 E4 z1 z3
 refine wpIn_rangeFunc_ownG hro h1 (gf:=202) (lb:=#[.pointer (some ⟨w.heap.size+1+1+1,0,none⟩)]) rfl trivial (enters_of Tryz.func202 (by kernel_rfl) rfl)
  (free_stops (n-1) (by omega) (w.heap.size+1+1+1) N st A m p B k q C n0 r o w4 K4 S4 hm hN) belowK_t (belowK_b (Nat.le_refl _)) (Below.refl _ _) (fun _=>rfl)
  (fun pre W=>(pre=[]∧W.cell? ⟨w.heap.size+1,0,none⟩=some (.int .i64 0)∧W.frozen? ⟨w.heap.size+1,0,none⟩=false∧W.cell? ⟨w.heap.size+1+1,0,none⟩=some (.bool false)∧W.frozen? ⟨w.heap.size+1+1,0,none⟩=false)∧Below w.heap.size w W)
  (fun c pre W=>(c=.ret∧∃ s,pre=[s]∧W.cell? ⟨w.heap.size+1,0,none⟩=some (.int .i64 s)∧W.cell? ⟨w.heap.size+1+1,0,none⟩=some (.bool true))∧Below w.heap.size w W)
  (OwnFrom.and (Own.from (fun s A B row hs hg hr=>⟨hs.1,cell_kept hs.2.1 hg hr,(frozen_kept hs.2.1 hg hr).trans hs.2.2.1,cell_kept hs.2.2.2.1 hg hr,(frozen_kept hs.2.2.2.1 hg hr).trans hs.2.2.2.2⟩) _) (ownFrom_below (Nat.le_refl _) (by omega)))
  (fun c=>OwnFrom.and (Own.from (fun s A B row hs hg hr=>⟨hs.1,hs.2.choose,hs.2.choose_spec.1,cell_kept hs.2.choose_spec.2.1 hg hr,cell_kept hs.2.choose_spec.2.2 hg hr⟩) _) (ownFrom_below (Nat.le_refl _) (by omega)))
  ⟨⟨rfl,c14,f14,c24,f24⟩,B4⟩
  (fun x=>{ tmps:=#[.agg #[.int .i64 (N:Int),.int .i64 st,.slice A m p,.slice B k q,.slice C n0 r],.pointer (some ⟨w.heap.size,0,none⟩),.pointer (some ⟨w.heap.size+1,0,none⟩),.pointer (some ⟨w.heap.size+1+1,0,none⟩),.int .i64 x,.agg #[.int .i64 (N:Int),.int .i64 st,.slice A m p,.slice B k q,.slice C n0 r],.func (.func 202) #[] #[.pointer (some ⟨w.heap.size+1+1+1,0,none⟩)],.int .i64 x,undef],defers:=[] }) ?assign ?body ?done ?stop
 case assign =>
  intro l x W K hK
  gi_wp2
  exact hK
 case body =>
  rintro l pre x W ⟨⟨rfl,hc1,hf1,hc2,hf2⟩,hB⟩ _
  have s1:(W.setCell ⟨w.heap.size+1,0,none⟩ (.int .i64 x)).cell? ⟨w.heap.size+1,0,none⟩=some (.int .i64 x):=World.cell?_setCell_same' _ _ _ (by rw [hc1]; rfl)
  have s2:(W.setCell ⟨w.heap.size+1,0,none⟩ (.int .i64 x)).cell? ⟨w.heap.size+1+1,0,none⟩=some (.bool false):=by
   rw [World.cell?_setCell_other _ _ _ _ (by intro hh; injection hh with hh; omega)]; exact hc2
  have s3:((W.setCell ⟨w.heap.size+1,0,none⟩ (.int .i64 x)).setCell ⟨w.heap.size+1+1,0,none⟩ (.bool true)).cell? ⟨w.heap.size+1,0,none⟩=some (.int .i64 x):=by
   rw [World.cell?_setCell_other _ _ _ _ (by intro hh; injection hh with hh; omega)]; exact s1
  have s4:((W.setCell ⟨w.heap.size+1,0,none⟩ (.int .i64 x)).setCell ⟨w.heap.size+1+1,0,none⟩ (.bool true)).cell? ⟨w.heap.size+1+1,0,none⟩=some (.bool true):=World.cell?_setCell_same' _ _ _ (by rw [s2]; rfl)
  have H3:=Lib.hid s3
  have H4:=Lib.hid s4
  clear s1 s2 s3 s4
  gi_wp2
  exact ⟨((KeepsOthers.setCell _ _ _).trans (KeepsOthers.setCell _ _ _)).from _,⟨rfl,x,rfl,H3.out,H4.out⟩,Below.setCell (p:=⟨w.heap.size+1+1,0,none⟩) (Below.setCell (p:=⟨w.heap.size+1,0,none⟩) hB (by simp) _) (by simp; omega) _⟩
 case done =>
  rintro D ys W hD rfl ⟨⟨he,hc1,hf1,hc2,hf2⟩,hB⟩ hK
  have s1:(W.setCell ⟨w.heap.size+1,0,none⟩ (.int .i64 0)).cell? ⟨w.heap.size+1,0,none⟩=some (.int .i64 0):=World.cell?_setCell_same' _ _ _ (by rw [hc1]; rfl)
  have s2:(W.setCell ⟨w.heap.size+1,0,none⟩ (.int .i64 0)).cell? ⟨w.heap.size+1+1,0,none⟩=some (.bool false):=by
   rw [World.cell?_setCell_other _ _ _ _ (by intro hh; injection hh with hh; omega)]; exact hc2
  have s3:((W.setCell ⟨w.heap.size+1,0,none⟩ (.int .i64 0)).setCell ⟨w.heap.size+1+1,0,none⟩ (.bool false)).cell? ⟨w.heap.size+1,0,none⟩=some (.int .i64 0):=by
   rw [World.cell?_setCell_other _ _ _ _ (by intro hh; injection hh with hh; omega)]; exact s1
  have s4:((W.setCell ⟨w.heap.size+1,0,none⟩ (.int .i64 0)).setCell ⟨w.heap.size+1+1,0,none⟩ (.bool false)).cell? ⟨w.heap.size+1+1,0,none⟩=some (.bool false):=World.cell?_setCell_same' _ _ _ (by rw [s2]; rfl)
  have H3:=Lib.hid s3
  have H4:=Lib.hid s4
  have HE:=Lib.hid he
  have hK':=((KeepsOthers.setCell W ⟨w.heap.size+1,0,none⟩ (.int .i64 0)).trans (KeepsOthers.setCell _ ⟨w.heap.size+1+1,0,none⟩ (.bool false))).same D _ hK rfl
  have HK:=Lib.hid hK'
  have HB:Hid (Below w.heap.size w ((W.setCell ⟨w.heap.size+1,0,none⟩ (.int .i64 0)).setCell ⟨w.heap.size+1+1,0,none⟩ (.bool false))):=Lib.hid (Below.setCell (p:=⟨w.heap.size+1+1,0,none⟩) (Below.setCell (p:=⟨w.heap.size+1,0,none⟩) hB (by simp) _) (by simp; omega) _)
  clear s1 s2 s3 s4 hK' he hB
  gi_wp2
  refine ⟨by simp,.inl ⟨_,_,rfl,run_takeDeferred HK.out,?_⟩⟩
  have g1:=cell_kept H3.out (grownBy_putObj' _ D (.deferred none)) (fun r e=>by cases e; exact ⟨_,HK.out,rfl⟩)
  have g2:=cell_kept H4.out (grownBy_putObj' _ D (.deferred none)) (fun r e=>by cases e; exact ⟨_,HK.out,rfl⟩)
  exact ⟨_,res_low rfl _ _ (w.heap.size+1) (w.heap.size+1+1) rfl rfl g1 g2,by rw [HE.out]; rfl,HB.out.trans (belowK_b (w:=w) (Nat.le_refl _) _ D _ _ (by omega) HK.out rfl rfl)⟩
 case stop =>
  rintro D c pre W hD hpre ⟨⟨rfl,s,rfl,hc1,hc2⟩,hB⟩ hK
  have HC1:=Lib.hid hc1
  have HC2:=Lib.hid hc2
  have HK:=Lib.hid hK
  have HP:=Lib.hid hpre
  clear hc1 hc2 hK hpre
  gi_wp2
  refine ⟨by simp,.inl ⟨_,_,rfl,run_takeDeferred HK.out,?_⟩⟩
  have g1:=cell_kept HC1.out (grownBy_putObj' _ D (.deferred none)) (fun r e=>by cases e; exact ⟨_,HK.out,rfl⟩)
  have g2:=cell_kept HC2.out (grownBy_putObj' _ D (.deferred none)) (fun r e=>by cases e; exact ⟨_,HK.out,rfl⟩)
  refine ⟨_,res_low rfl _ _ (w.heap.size+1) (w.heap.size+1+1) rfl rfl g1 g2,?_,hB.trans (belowK_b (w:=w) (Nat.le_refl _) W D _ _ (by omega) HK.out rfl rfl)⟩
  obtain ⟨t,ht⟩:=HP.out
  rw [← ht]
  rfl
theorem low_any (sg st:Int) (A:Option Addr) (m p:Nat) (B:Option Addr) (k q:Nat) (C:Option Addr) (n r:Nat) (o:List Int) (w:World) (hS:Sl .i64 w A m o) (hm:m≤maxLen) (hs:0≤sg∧sg≤16):Calls Tryz.prog 162 #[.agg #[.int .i64 sg,.int .i64 st,.slice A m p,.slice B k q,.slice C n r]] w (LowP (freeTo o sg.toNat) w):=by
 obtain ⟨N,rfl⟩:=Int.eq_ofNat_of_zero_le hs.1
 exact callsIn_wide.1 (low_in 3 (by omega) N st A m p B k q C n r o w hS hm (by omega))
open Go.RowKit Go.Lib
set_option linter.unusedVariables false
theorem ok_bd {t:Tab} (h:okP t):(0≤t.sg∧t.sg≤16)∧(1≤t.o.length∧t.o.length≤16)∧t.l.length=t.o.length∧t.f.length=t.o.length:=by
 obtain ⟨h1,h2,h3,h4,h5,h6,h7,h8⟩:=h
 have:=free_len (o:=t.o) (n:=t.sg.toNat) (fun x hx=>by have:=h4 x hx; omega) h5
 exact ⟨by omega,by omega,h7,h8⟩
theorem ok_full {W:World} {sg st:Int} {A:Option Addr} {m:Nat} {B:Option Addr} {k:Nat} {C:Option Addr} {n:Nat} {o l f:List Int} (h:okP ⟨sg,st,o,l,f⟩) (ht:TIn W A m B k C n o l f):(Full A m∧Full B k∧Full C n)∧(1≤m∧m≤16)∧k=m∧n=m∧(m≤maxLen∧k≤maxLen∧n≤maxLen):=by
 have hb:=ok_bd h
 simp only at hb
 have h1:=ht.a.len
 have h2:=ht.b.len
 have h3:=ht.c.len
 refine ⟨⟨.inr (by omega),.inr (by omega),.inr (by omega)⟩,by omega,by omega,by omega,?_⟩
 unfold maxLen
 omega
def rollOf (t:Tab) (first:Int) (fl:List Int):Option Tab:=match fl with
 | []=>none
 | s :: _=>some (openedT t s first)
set_option maxHeartbeats 2000000 in
theorem roll_any (sg st:Int) (A:Option Addr) (m p:Nat) (B:Option Addr) (k q:Nat) (C:Option Addr) (n r:Nat) (o l f:List Int) (first:Int) (w:World) (h:TIn w A m B k C n o l f) (hok:okP ⟨sg,st,o,l,f⟩) :
 Calls Tryz.prog 119 #[.agg #[.int .i64 sg,.int .i64 st,.slice A m p,.slice B k q,.slice C n r],.int .u64 first] w (ResP (tabOf (rollT ⟨sg,st,o,l,f⟩ first)) (errOf (rollT ⟨sg,st,o,l,f⟩ first) 10) w):=by
 obtain ⟨⟨hfa,hfb,hfc⟩,hm,hk,hn,hml,hkl,hnl⟩:=ok_full hok h
 have hm2:m<1000:=by omega
 have hk2:k<1000:=by omega
 have hn2:n<1000:=by omega
 clear hk hn hm
 have hsg:=(ok_bd hok).1
 simp only at hsg
 have B0:Below w.heap.size w ((w.alloc (.cells #[.int .i64 sg,.int .i64 st,.slice A m p,.slice B k q,.slice C n r] 45)).alloc (.cells #[.int .i64 0,.int .i64 0,.slice none 0 0,.slice none 0 0,.slice none 0 0] 45)):=Ge.trans (below1 _ _) (below1 _ _)
 have K0:Blk ((w.alloc (.cells #[.int .i64 sg,.int .i64 st,.slice A m p,.slice B k q,.slice C n r] 45)).alloc (.cells #[.int .i64 0,.int .i64 0,.slice none 0 0,.slice none 0 0,.slice none 0 0] 45)) w.heap.size 45 (csT sg st A m p B k q C n r):=(Blk.new w _ _).later (below1 _ _)
 have Z0:Blk ((w.alloc (.cells #[.int .i64 sg,.int .i64 st,.slice A m p,.slice B k q,.slice C n r] 45)).alloc (.cells #[.int .i64 0,.int .i64 0,.slice none 0 0,.slice none 0 0,.slice none 0 0] 45)) (w.heap.size+1) 45 (csT 0 0 none 0 0 none 0 0 none 0 0):=Blk.at_ _ _ _ (by simp)
 have sz0:((w.alloc (.cells #[.int .i64 sg,.int .i64 st,.slice A m p,.slice B k q,.slice C n r] 45)).alloc (.cells #[.int .i64 0,.int .i64 0,.slice none 0 0,.slice none 0 0,.slice none 0 0] 45)).heap.size=w.heap.size+2:=by simp
 have hv:=Tryz.zeroValue45
 have hT:=h.later B0
 have HL:=Lib.hid (low_any sg st A m p B k q C n r o _ hT.a hml hsg)
 have HT:=Lib.hid hT
 have HK:=Lib.hid K0
 have HZ:=Lib.hid Z0
 have HB:=Lib.hid B0
 have SZ:=Lib.hid sz0
 obtain ⟨fl,HF⟩:∃ fl,Hid (freeTo o sg.toNat=fl):=⟨_,Lib.hid rfl⟩
 have HR:Hid (rollT ⟨sg,st,o,l,f⟩ first=rollOf ⟨sg,st,o,l,f⟩ first fl):=Lib.hid (by rw [← HF.out]; rfl)
 rw [HF.out] at HL
 clear hT h B0 K0 Z0 sz0 hok
 cases fl with
 | nil =>
   rw [HR.out]
   simp only [rollOf,tabOf,errOf,Option.getD]
   have HL2:Hid (Calls Tryz.prog 162 #[.agg #[.int .i64 sg,.int .i64 st,.slice A m p,.slice B k q,.slice C n r]] ((w.alloc (.cells #[.int .i64 sg,.int .i64 st,.slice A m p,.slice B k q,.slice C n r] 45)).alloc (.cells #[.int .i64 0,.int .i64 0,.slice none 0 0,.slice none 0 0,.slice none 0 0] 45)) fun e w'=>e=.returned (.tuple #[.int .i64 0,.bool false])∧Below ((w.alloc (.cells #[.int .i64 sg,.int .i64 st,.slice A m p,.slice B k q,.slice C n r] 45)).alloc (.cells #[.int .i64 0,.int .i64 0,.slice none 0 0,.slice none 0 0,.slice none 0 0] 45)).heap.size ((w.alloc (.cells #[.int .i64 sg,.int .i64 st,.slice A m p,.slice B k q,.slice C n r] 45)).alloc (.cells #[.int .i64 0,.int .i64 0,.slice none 0 0,.slice none 0 0,.slice none 0 0] 45)) w'):=HL
   go_enter Tryz.func119,Tryz.ntmps119
   go_wp2_with (with_reducible refine load_t rfl (.tmp 2) rfl w.heap.size rfl HK.out ?_)
   refine HL2.out.mono ?_
   rintro e w1 ⟨rfl,hb⟩
   have Z1:=Lib.hid (HZ.out.later hb)
   have B1:=Lib.hid (Ge.trans HB.out hb)
   clear hb HL HL2 HK HZ HB
   go_wp2_with (with_reducible refine store_t rfl (.tmp 4) (.tmp 15) rfl (w.heap.size+1) rfl rfl Z1.out ?_)
   exact bodyPost_ret (res_t2 (y:=.int .i64 10) rfl _ _ (w.heap.size+1) rfl rfl (Z1.out.row _)) rfl (zero_res 10 w _ (below_row B1.out (by omega) _))
 | cons s rest =>
   rw [HR.out]
   simp only [rollOf,tabOf,errOf,Option.getD]
   have HL2:Hid (Calls Tryz.prog 162 #[.agg #[.int .i64 sg,.int .i64 st,.slice A m p,.slice B k q,.slice C n r]] ((w.alloc (.cells #[.int .i64 sg,.int .i64 st,.slice A m p,.slice B k q,.slice C n r] 45)).alloc (.cells #[.int .i64 0,.int .i64 0,.slice none 0 0,.slice none 0 0,.slice none 0 0] 45)) fun e w'=>e=.returned (.tuple #[.int .i64 s,.bool true])∧Below ((w.alloc (.cells #[.int .i64 sg,.int .i64 st,.slice A m p,.slice B k q,.slice C n r] 45)).alloc (.cells #[.int .i64 0,.int .i64 0,.slice none 0 0,.slice none 0 0,.slice none 0 0] 45)).heap.size ((w.alloc (.cells #[.int .i64 sg,.int .i64 st,.slice A m p,.slice B k q,.slice C n r] 45)).alloc (.cells #[.int .i64 0,.int .i64 0,.slice none 0 0,.slice none 0 0,.slice none 0 0] 45)) w'):=HL
   go_enter Tryz.func119,Tryz.ntmps119
   go_wp2_with (with_reducible refine load_t rfl (.tmp 2) rfl w.heap.size rfl HK.out ?_)
   refine HL2.out.mono ?_
   rintro e w1 ⟨rfl,hb⟩
   have Z1:=HZ.out.later hb
   have K1:=Lib.hid (HK.out.later hb)
   have B1:=Ge.trans HB.out hb
   have C1:=Lib.hid (opened_any sg st A m p B k q C n r o l f s first w1 (HT.out.later hb) hfa hfb hfc hm2 hk2 hn2)
   have sz1:w.heap.size+2≤w1.heap.size:=by have:=hb.size; rw [SZ.out] at this; exact this
   clear hb HL HL2 HK HZ HB HT SZ
   go_wp2_with (with_reducible refine load_t rfl (.tmp 2) rfl w.heap.size rfl K1.out ?_)
   refine C1.out.mono ?_
   rintro e' w2 ⟨A1,p1,B1',q1,C1',r1,rfl,R1,b1⟩
   have Z2:=Lib.hid (Z1.later b1)
   have B2:=Lib.hid (Ge.trans B1 b1)
   have RR:=Lib.hid R1
   clear C1 K1 Z1 B1 R1 b1
   go_wp2_with (with_reducible refine store_t rfl (.tmp 4) (.tmp 19) rfl (w.heap.size+1) rfl rfl Z2.out ?_)
   have R2:=RR.out.row (b:=w.heap.size+1) (cs:=csT sg st A1 (m+1) p1 B1' (k+1) q1 C1' (n+1) r1) (by omega)
   exact bodyPost_ret (res_t2 rfl _ _ (w.heap.size+1) rfl rfl (Z2.out.row _)) rfl ⟨A1,m+1,p1,B1',k+1,q1,C1',n+1,r1,rfl,R2.tin,own_cap R2.a,(R2.wide (by omega)).fresh,below_row B2.out (by omega) _⟩
theorem last_cell {W:World} {B:Option Addr} {k:Nat} {l:List Int} (h:Sl .i64 W B k l) (hk:0<k):∃ b off,B=some ⟨b,off,none⟩∧b<W.heap.size∧W.cell? ⟨b,off+(k-1),none⟩=some (.int .i64 (lastN l)):=by
 obtain ⟨b,off,e,hb,hc⟩:=h.cells hk
 refine ⟨b,off,e,hb,?_⟩
 have:=hc (k-1) (by omega)
 rw [this]
 unfold lastN
 rw [h.len]
set_option maxHeartbeats 4000000 in
theorem room_is (sg st:Int) (A:Option Addr) (m p:Nat) (B:Option Addr) (k q:Nat) (C:Option Addr) (n r:Nat) (o l f:List Int) (y:Int) (w:World) (h:TIn w A m B k C n o l f) (hok:okP ⟨sg,st,o,l,f⟩) (hy:roomT ⟨sg,st,o,l,f⟩=y) :
 Calls Tryz.prog 86 #[.agg #[.int .i64 sg,.int .i64 st,.slice A m p,.slice B k q,.slice C n r]] w fun e w'=>e=.returned (.int .i64 y)∧Below w.heap.size w w':=by
 obtain ⟨_,hm,hk,hn,hml,hkl,hnl⟩:=ok_full hok h
 subst hk
 clear hn
 have hsl:k=l.length:=h.b.len
 have hol:k=o.length:=h.a.len
 have hlast:=hok.2.2.2.2.2.1 _ (last_mem (l:=l) (by omega))
 simp only at hlast
 have h1:=hok.1
 have h2:=hok.2.1
 simp only at h1 h2
 obtain ⟨bb,off,rfl,hbb,hc⟩:=last_cell h.b (by omega)
 obtain ⟨z,HZ⟩:∃ z,Hid (lastN l=z):=⟨_,Lib.hid rfl⟩
 rw [HZ.out] at hlast hc
 have hbx:=below1 w (.cells #[.int .i64 sg,.int .i64 st,.slice A k p,.slice (some ⟨bb,off,none⟩) k q,.slice C n r] 45)
 obtain ⟨i,Hi⟩:∃ i,Hid (k-1=i):=⟨_,Lib.hid rfl⟩
 rw [Hi.out] at hc
 have hik:i<k:=by have:=Hi.out; omega
 have hiki:(i:Int)<(k:Int):=by omega
 obtain ⟨d1,E1⟩:∃ d,Hid (st-z=d):=⟨_,Lib.hid rfl⟩
 obtain ⟨d2,E2⟩:∃ d,Hid (sg-(k:Int)=d):=⟨_,Lib.hid rfl⟩
 obtain ⟨d3,E3⟩:∃ d,Hid (st*d2=d):=⟨_,Lib.hid rfl⟩
 have b2:0≤d2∧d2≤16:=by
  have:=E2.out
  have hf:=free_len (o:=o) (n:=sg.toNat) (fun x hx=>by have:=hok.2.2.2.1 x hx; simp only at this; omega) hok.2.2.2.2.1
  omega
 have b3:0≤d3∧d3≤480:=by
  rw [← E3.out]
  refine ⟨Int.mul_nonneg (by omega) b2.1,?_⟩
  calc st*d2≤30*d2:=Int.mul_le_mul_of_nonneg_right h2.2 b2.1
   _≤480:=by omega
 have w1:IntKind.i64.wrap (st-z)=d1:=by rw [E1.out]; exact IntWalk.i64_in _ (by have:=E1.out; omega)
 have w2:IntKind.i64.wrap (sg-(k:Int))=d2:=by rw [E2.out]; exact IntWalk.i64_in _ (by omega)
 have w3:IntKind.i64.wrap (st*d2)=d3:=by rw [E3.out]; exact IntWalk.i64_in _ (by omega)
 have w4:IntKind.i64.wrap (d1+d3)=y:=by
  have:d1+d3=y:=by
   rw [← hy]
   unfold roomT
   simp only
   rw [HZ.out,← hol,E2.out,E3.out,E1.out]
  rw [this]
  exact IntWalk.i64_in _ (by have:=E1.out; omega)
 have I:Its w [(w.heap.size,45,csT sg st A k p (some ⟨bb,off,none⟩) k q C n r)] [] (w.alloc (.cells #[.int .i64 sg,.int .i64 st,.slice A k p,.slice (some ⟨bb,off,none⟩) k q,.slice C n r] 45)):=(Its.nil hbx).cons (Blk.new w _ _)
 have hne:Nonempty (In (Its w [(w.heap.size,45,csT sg st A k p (some ⟨bb,off,none⟩) k q C n r)] [])):=⟨⟨_,I⟩⟩
 have f0:∀ j:In (Its w [(w.heap.size,45,csT sg st A k p (some ⟨bb,off,none⟩) k q C n r)] []),j.W.cell? ⟨w.heap.size,0,none⟩=some (.int .i64 sg):=fun j=>(j.h.at_ 0 rfl).cell 0
 have f1:∀ j:In (Its w [(w.heap.size,45,csT sg st A k p (some ⟨bb,off,none⟩) k q C n r)] []),j.W.cell? ⟨w.heap.size,1,none⟩=some (.int .i64 st):=fun j=>(j.h.at_ 0 rfl).cell 1
 have f2:∀ j:In (Its w [(w.heap.size,45,csT sg st A k p (some ⟨bb,off,none⟩) k q C n r)] []),j.W.cell? ⟨w.heap.size,2,none⟩=some (.slice A k p):=fun j=>(j.h.at_ 0 rfl).cell 2
 have f3:∀ j:In (Its w [(w.heap.size,45,csT sg st A k p (some ⟨bb,off,none⟩) k q C n r)] []),j.W.cell? ⟨w.heap.size,3,none⟩=some (.slice (some ⟨bb,off,none⟩) k q):=fun j=>(j.h.at_ 0 rfl).cell 3
 have f4:∀ j:In (Its w [(w.heap.size,45,csT sg st A k p (some ⟨bb,off,none⟩) k q C n r)] []),j.W.cell? ⟨w.heap.size,4,none⟩=some (.slice C n r):=fun j=>(j.h.at_ 0 rfl).cell 4
 have fe:∀ j:In (Its w [(w.heap.size,45,csT sg st A k p (some ⟨bb,off,none⟩) k q C n r)] []),j.W.cell? ⟨bb,off+i,none⟩=some (.int .i64 z):=fun j=>((bcell j.h.b).1 bb (off+i) hbb).trans hc
 have II:=Lib.hid I
 have Q:Hid (∀ W:World,Its w [(w.heap.size,45,csT sg st A k p (some ⟨bb,off,none⟩) k q C n r)] [] W→Calls Tryz.prog 132 #[.agg #[.int .i64 sg,.int .i64 st,.slice A k p,.slice (some ⟨bb,off,none⟩) k q,.slice C n r]] W fun e w'=>e=.returned (.int .i64 (i:Int))∧Below W.heap.size W w'):=Lib.hid (fun W _=>open_is sg st A k p (some ⟨bb,off,none⟩) k q C n r (i:Int) W hml (by have:=Hi.out; omega))
 clear I hc hlast hok h hbx hy hsl hol b2 b3 h1 h2
 go_enter Tryz.func86,Tryz.ntmps86
 go_wp2_with fail
 refine region_class (Its w [(w.heap.size,45,csT sg st A k p (some ⟨bb,off,none⟩) k q C n r)] []) (by kernel_rfl) (by kernel_rfl) II.out.drawn ?_
 repeat (go_big_quiet_step ((go_at_call 132; with_reducible exact class_call _ (fun hi=>its_ge hi (Q.out _ hi)))))
 refine wpQuiet_nil ?_
 rintro _ ⟨j,rfl⟩
 go_wp2_with fail
 go_ret
 exact ⟨rfl,j.h.b⟩
end Go.Proofs.YtcnohlgigmmefaaGreat.Tb
