/- A part. -/
import Derived.Test.YtdpmjlbkojhooaaGreatQLgI
namespace Go.Proofs.YtdpmjlbkojhooaaGreat.Lg
open Go.RowKit Go.Lib
open Tb (Tab TIn Sl okP csT lastN nth Fresh)
open Dk (St Only Grew)
set_option linter.unusedVariables false
set_option maxRecDepth 100000
structure Prg (PL:Nat→Nat→Tab→Int→Int→Int→Dk.Item):Prop where
 fmt:∀ {W w:World} {items:List Dk.Item} {k d:Nat} {s:St},Dk.Sep W w items→items[k]? = some (Dk.diskI d s)→∀ (sg sl rt:Int) (x:Nat),x<18446744073709551616→s.pend.length<1048576→∀ S:ByteArray,Cp.secL ⟨1,1,1,0,[0],[0]⟩=S.data.toList →
  Calls Tryz.prog 51 #[.pointer (some ⟨d,0,none⟩),.agg #[.int .i64 sg,.int .i64 sl,.float .f64 x,.int .i64 rt]] w fun e w' =>
   (fmtE s sg sl x rt S=0∧∃ g,e=.returned (.tuple #[.pointer (some ⟨g,0,none⟩),.int .i64 0])∧Dk.Sep W w' (items.set k (Dk.diskI d (fmtD s sg sl x rt S))++[PL g d (Tb.newT sg sl 1) 1 1 1])) ∨
   (fmtE s sg sl x rt S≠0∧e=.returned (.tuple #[.pointer none,.int .i64 (fmtE s sg sl x rt S)])∧Dk.Sep W w' (items.set k (Dk.diskI d (fmtD s sg sl x rt S))))
 app:∀ {W w:World} {items:List Dk.Item} {k j g d:Nat} {s:St} {t:Tab} {ls ep gn:Int},Dk.Sep W w items→items[k]? = some (Dk.diskI d s)→items[j]? = some (PL g d t ls ep gn)→k≠j→∀ (l0 e0 K V D:Int) (I X:ByteArray),
  1≤ls∧ls+2<18446744073709551616→0≤ep∧ep<4294967296→0≤V∧V<18446744073709551616→0≤D∧D<18446744073709551616→I.size≤maxLen→X.size≤maxLen→okP t→FitS t s→s.pend.length+2<1048576 →
  Calls Tryz.prog 25 #[.pointer (some ⟨g,0,none⟩),.agg #[.int .u64 l0,.int .u32 e0,.int .i64 K,.int .u64 V,.int .u64 D,.string I,.string X]] w fun e w' =>
   e=.returned (.tuple #[.agg #[.int .i64 (appS t s ls ep K V D I X).2.2.2.1,.int .i64 (appS t s ls ep K V D I X).2.2.2.2.1],.int .i64 (appS t s ls ep K V D I X).2.2.2.2.2]) ∧
   ∃ it,Dk.Sep W w' ((items.set k (Dk.diskI d (appS t s ls ep K V D I X).1)).set j it)∧((appS t s ls ep K V D I X).2.2.2.2.2≠9→it=PL g d (appS t s ls ep K V D I X).2.1 (appS t s ls ep K V D I X).2.2.1 ep gn)
 sealc:∀ {W w:World} {items:List Dk.Item} {k j g d:Nat} {s:St} {t:Tab} {ls ep gn:Int},Dk.Sep W w items→items[k]? = some (Dk.diskI d s)→items[j]? = some (PL g d t ls ep gn)→k≠j →
  1≤ls∧ls+2<18446744073709551616→0≤ep∧ep<4294967296→okP t→FitS t s→s.pend.length+2<1048576 →
  Calls Tryz.prog 31 #[.pointer (some ⟨g,0,none⟩)] w fun e w' =>
   e=.returned (.int .i64 (sealS t s ls (footB t ls ep)).2.2.2) ∧
   ∃ it,Dk.Sep W w' ((items.set k (Dk.diskI d (sealS t s ls (footB t ls ep)).1)).set j it)∧((sealS t s ls (footB t ls ep)).2.2.2≠9→it=PL g d (sealS t s ls (footB t ls ep)).2.1 (sealS t s ls (footB t ls ep)).2.2.1 ep gn)
 chk:∀ {W w:World} {items:List Dk.Item} {k j g d:Nat} {s:St} {t:Tab} {ls ep gn:Int},Dk.Sep W w items→items[k]? = some (Dk.diskI d s)→items[j]? = some (PL g d t ls ep gn)→k≠j→∀ ver:Int,0≤ver∧ver<18446744073709551616 →
  1≤ls∧ls<18446744073709551616→0≤ep∧ep<4294967296→0≤gn∧gn<9223372036854775807→okP t→2≤s.size→s.pend.length<1048576→∀ S:ByteArray,Cp.secL ⟨gn+1,ep,ls,ver,t.o,t.l⟩=S.data.toList →
  Calls Tryz.prog 34 #[.pointer (some ⟨g,0,none⟩),.int .u64 ver] w fun e w' =>
   e=.returned (.int .i64 (chkS s gn S).2.2)∧∃ it,Dk.Sep W w' ((items.set k (Dk.diskI d (chkS s gn S).1)).set j it)∧((chkS s gn S).2.2≠9→it=PL g d t ls ep (chkS s gn S).2.1)
 drop:∀ {W w:World} {items:List Dk.Item} {k j g d:Nat} {s:St} {t:Tab} {ls ep gn:Int},Dk.Sep W w items→items[k]? = some (Dk.diskI d s)→items[j]? = some (PL g d t ls ep gn)→k≠j→∀ x ver:Int,0≤ver∧ver<18446744073709551616 →
  1≤ls∧ls<18446744073709551616→0≤ep∧ep<4294967296→0≤gn∧gn<9223372036854775807→okP t→2≤s.size→s.pend.length<1048576→∀ S:ByteArray,(∀ t',Tb.dropT t x=some t'→Cp.secL ⟨gn+1,ep,ls,ver,t'.o,t'.l⟩=S.data.toList) →
  Calls Tryz.prog 33 #[.pointer (some ⟨g,0,none⟩),.int .i64 x,.int .u64 ver] w fun e w' =>
   e=.returned (.int .i64 (dropS t x s gn S).2.2.2)∧∃ it,Dk.Sep W w' ((items.set k (Dk.diskI d (dropS t x s gn S).1)).set j it)∧((dropS t x s gn S).2.2.2≠9→it=PL g d (dropS t x s gn S).2.1 ls ep (dropS t x s gn S).2.2.1)
 read:∀ {W w:World} {items:List Dk.Item} {k j g d:Nat} {s:St} {t:Tab} {ls ep gn:Int},Dk.Sep W w items→items[k]? = some (Dk.diskI d s)→items[j]? = some (PL g d t ls ep gn)→k≠j→∀ seg slot:Int,okP t→s.Good→FitS t s→s.pend.length<1048576 →
  Calls Tryz.prog 28 #[.pointer (some ⟨g,0,none⟩),.agg #[.int .i64 seg,.int .i64 slot]] w fun e w'=>e=.returned (.tuple #[.agg (readS t s seg slot).1,.int .i64 (readS t s seg slot).2])∧Below w.heap.size w w'
 tab:∀ {W w:World} {items:List Dk.Item} {j g d:Nat} {t:Tab} {ls ep gn:Int},Dk.Sep W w items→items[j]? = some (PL g d t ls ep gn) →
  Calls Tryz.prog 24 #[.pointer (some ⟨g,0,none⟩)] w fun e w'=>∃ A m p B k q C n r W1,e=.returned (.agg #[.int .i64 t.sg,.int .i64 t.st,.slice A m p,.slice B k q,.slice C n r])∧TIn w' A m B k C n t.o t.l t.f∧(Fresh W1 w.heap.size A m∧Fresh W1 w.heap.size B k∧Fresh W1 w.heap.size C n)∧Below w.heap.size w w'
 lsn:∀ {W w:World} {items:List Dk.Item} {j g d:Nat} {t:Tab} {ls ep gn:Int},Dk.Sep W w items→items[j]? = some (PL g d t ls ep gn)→Calls Tryz.prog 32 #[.pointer (some ⟨g,0,none⟩)] w fun e w'=>e=.returned (.int .u64 ls)∧Below w.heap.size w w'
 epoch:∀ {W w:World} {items:List Dk.Item} {j g d:Nat} {t:Tab} {ls ep gn:Int},Dk.Sep W w items→items[j]? = some (PL g d t ls ep gn)→Calls Tryz.prog 47 #[.pointer (some ⟨g,0,none⟩)] w fun e w'=>e=.returned (.int .u32 ep)∧Below w.heap.size w w'
 gen:∀ {W w:World} {items:List Dk.Item} {j g d:Nat} {t:Tab} {ls ep gn:Int},Dk.Sep W w items→items[j]? = some (PL g d t ls ep gn)→Calls Tryz.prog 48 #[.pointer (some ⟨g,0,none⟩)] w fun e w'=>e=.returned (.int .u64 gn)∧Below w.heap.size w w'
 ok:∀ {W w:World} {items:List Dk.Item} {j g d:Nat} {t:Tab} {ls ep gn:Int},Dk.Sep W w items→items[j]? = some (PL g d t ls ep gn)→okP t
def csF (sg sl:Int) (x:Nat) (rt:Int):Array Value:=#[.int .i64 sg,.int .i64 sl,.float .f64 x,.int .i64 rt]
theorem info_cf:(Tryz.prog.info? 24).map (·.size)=some 4:=by kernel_rfl
section
variable {ops:Array Oper} {rest:List Oper} {o:Oper} {a:Act} {w:World} {Q:Exit→Act→World→Prop}
theorem load_cf (hgd:o.guard=none) (x:Operand) (ho:o.op=.load 24 x) (b:Nat) (hx:a.eval x=.pointer (some ⟨b,0,none⟩)) {sg sl rt:Int} {y:Nat} {t:TypeId} (hg:Tb.Blk w b t (csF sg sl y rt))
 (h:wpList Tryz.prog ops Q rest (a.put o.dst (.agg #[.int .i64 sg,.int .i64 sl,.float .f64 y,.int .i64 rt])) w):wpList Tryz.prog ops Q (o :: rest) a w :=
 wpList_load_row hgd _ x ho b hx _ (csF sg sl y rt) (0,0) _ hg Tryz.underlying24 rfl info_cf h
theorem store_cf (hgd:o.guard=none) (x y:Operand) (ho:o.op=.store 24 x y) (b:Nat) (hx:a.eval x=.pointer (some ⟨b,0,none⟩)) {sg sl rt:Int} {z:Nat} (hy:a.eval y=.agg #[.int .i64 sg,.int .i64 sl,.float .f64 z,.int .i64 rt]) {sg0 sl0 rt0:Int} {z0:Nat} {t:TypeId} (hg:Tb.Blk w b t (csF sg0 sl0 z0 rt0))
 (h:wpList Tryz.prog ops Q rest (a.put o.dst undef) (w.setRow b (csF sg sl z rt))):wpList Tryz.prog ops Q (o :: rest) a w :=
 wpList_store_row hgd _ x y ho b (csF sg sl z rt) hx hy _ _ hg info_cf rfl (by simp [csF,Value.oneCell']) h
end
theorem res_cf {fn:Func} {p' : Tmp} (h:fn.results=#[.cell p' 24]) (tmps:Array Value) (W:World) (b:Nat) {sg sl rt:Int} {y:Nat} {t:TypeId} (hp:tmps.getD p' undef=.pointer (some ⟨b,0,none⟩)) (L:Tb.Blk W b t (csF sg sl y rt)) :
 (results fn tmps).run Tryz.prog W=.ok (.agg #[.int .i64 sg,.int .i64 sl,.float .f64 y,.int .i64 rt]) W :=
 results_cell_row h tmps W b t (csF sg sl y rt) (0,0) _ hp L Tryz.underlying24 rfl info_cf
end Go.Proofs.YtdpmjlbkojhooaaGreat.Lg
