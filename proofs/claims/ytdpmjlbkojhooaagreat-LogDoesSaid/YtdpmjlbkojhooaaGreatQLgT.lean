/- A part. -/
import Derived.Test.YtdpmjlbkojhooaaGreatQLgS
import Derived.Test.YtdpmjlbkojhooaaGreatQMem
import Derived.Lib.SmallJoins
namespace Go.Proofs.YtdpmjlbkojhooaaGreat.Lg
open Go.ChangeShapes Go.WideShapes Go.ChangeAt Go.RowKit Go.Lib Go.Joins Go.Deep
open Tb (Tab TIn Sl okP csT lastN nth Fresh)
open Dk (St Only Grew)
set_option linter.unusedVariables false
set_option maxRecDepth 100000
structure LOp where
 k:Int
 l:Int
 e:Int
 rk:Int
 v:Int
 d:Int
 i:ByteArray
 a:ByteArray
 n:Int
 u:Int
instance:Inhabited LOp:=⟨⟨0,0,0,0,0,0,.empty,.empty,0,0⟩⟩
def LOp.cells (o:LOp):List Value:=[.int .i64 o.k,.int .u64 o.l,.int .u32 o.e,.int .i64 o.rk,.int .u64 o.v,.int .u64 o.d,.string o.i,.string o.a,.int .i64 o.n,.int .u64 o.u]
structure LOp.Ok (o:LOp):Prop where
 v:0≤o.v∧o.v<18446744073709551616
 d:0≤o.d∧o.d<18446744073709551616
 u:0≤o.u∧o.u<18446744073709551616
 i:o.i.size≤maxLen
 a:o.a.size≤maxLen
theorem step_any {PL:Nat→Nat→Tab→Int→Int→Int→Dk.Item} (P:Prg PL) {W w:World} {d g r g2:Nat} {s:St} {t:Tab} {ls ep gn:Int} {c:Nat} (h:Dk.Sep W w (four PL d g r g2 s t ls ep gn)) (hP:LogP c t s ls gn) (hep:0≤ep∧ep<4294967296) (hc:c≤1000) (o:LOp) (ho:o.Ok) :
 Calls Tryz.prog 17 #[.pointer (some ⟨g,0,none⟩),.pointer (some ⟨g2,0,none⟩),.agg #[.int .i64 o.k,.int .u64 o.l,.int .u32 o.e,.int .i64 o.rk,.int .u64 o.v,.int .u64 o.d,.string o.i,.string o.a,.int .i64 o.n,.int .u64 o.u]] w (StepR PL c W d g r g2 ep) :=
 step_all P h hP hep hc o.k o.l o.e o.rk o.v o.d o.n o.u o.i o.a ho.v ho.d ho.u ho.i ho.a
def LopsIn (W:World) (A:Option Addr) (n:Nat) (f:Nat→LOp):Prop :=
 (∀ j,j<n→(f j).Ok)∧(0<n→∃ b o,A=some ⟨b,o,none⟩∧b<W.heap.size∧∀ j,j<n→∀ i,i<10→W.cell? ⟨b,o+j*10+i,none⟩=(f j).cells[i]?)
theorem LopsIn.later {W W' : World} {A:Option Addr} {n:Nat} {f:Nat→LOp} (h:LopsIn W A n f) (hb:Below W.heap.size W W'):LopsIn W' A n f:=by
 refine ⟨h.1,fun hn=>?_⟩
 obtain ⟨b,o,e,hlt,hc⟩:=h.2 hn
 exact ⟨b,o,e,Nat.lt_of_lt_of_le hlt hb.size,fun j hj i hi=>(hb.cell (p:=⟨b,o+j*10+i,none⟩) hlt).trans (hc j hj i hi)⟩
theorem u64_of {n:Int} (h:(Lit.int .u64 n).wf=true):0≤n∧n<18446744073709551616:=by
 simp [Lit.wf] at h
 have h2:n≤18446744073709551615:=h.2
 exact ⟨h.1,by omega⟩
section
variable {H:Type} {enc:TypeId × Value→H} {W:World}
theorem rec_cells {base:Nat} {sp:Nat→Bool} {held:Bool} {fuel:Nat} {v1 v2 v3 v4 v5 v6 v7:Value} {x:DataW H × List MemPlace} (h:DataW.trod enc Tryz.prog W base sp held fuel 46 [v1,v2,v3,v4,v5,v6,v7]=some x) :
 ∃ (l e k v d:Int) (i a:ByteArray),v1=.int .u64 l∧v2=.int .u32 e∧v3=.int .i64 k∧v4=.int .u64 v∧v5=.int .u64 d∧v6=.string i∧v7=.string a∧(0≤v∧v<18446744073709551616)∧(0≤d∧d<18446744073709551616)∧i.size≤maxLen∧a.size≤maxLen:=by
 obtain ⟨xs,n,_,rfl,_,hlen,hf⟩:=DataW.trod_struct Tryz.underlying46 h
 match xs,hlen with
 | [y0,y1,y2,y3,y4,y5,y6],_ =>
   have k1:Tryz.prog.cellsOf 43=1:=by kernel_rfl
   have k2:Tryz.prog.cellsOf 44=1:=by kernel_rfl
   have k3:Tryz.prog.cellsOf 3=1:=by kernel_rfl
   have k4:Tryz.prog.cellsOf 9=1:=by kernel_rfl
   have g0:=hf 0 _ rfl
   have g1:=hf 1 _ rfl
   have g2:=hf 2 _ rfl
   have g3:=hf 3 _ rfl
   have g4:=hf 4 _ rfl
   have g5:=hf 5 _ rfl
   have g6:=hf 6 _ rfl
   simp [k1,k2,k3,k4] at g0 g1 g2 g3 g4 g5 g6
   obtain ⟨l,e0,_,w0⟩:=DataW.trod_int Tryz.underlying43 g0
   obtain ⟨e,e1,_,w1⟩:=DataW.trod_int Tryz.underlying44 g1
   obtain ⟨k,e2,_,w2⟩:=DataW.trod_int Tryz.underlying3 g2
   obtain ⟨v,e3,_,w3⟩:=DataW.trod_int Tryz.underlying43 g3
   obtain ⟨d,e4,_,w4⟩:=DataW.trod_int Tryz.underlying43 g4
   obtain ⟨i,e5,_,w5⟩:=DataW.trod_string Tryz.underlying9 g5
   obtain ⟨a,e6,_,w6⟩:=DataW.trod_string Tryz.underlying9 g6
   simp at e0 e1 e2 e3 e4 e5 e6
   exact ⟨l,e,k,v,d,i,a,e0,e1,e2,e3,e4,e5,e6,u64_of w3,u64_of w4,w5,w6⟩
theorem lop_at {a:Addr} {fuel:Nat} {cs:List Value} {x:DataW H × List MemPlace} (hl:cs.length=10) (hat:∀ j,j<10→W.cell? (a.add j)=cs[j]?)
 (h:DataW.trod enc Tryz.prog W 0 (fun _=>true) true fuel 48 cs=some x) :
 ∃ o:LOp,o.Ok∧∀ j,j<10→W.cell? (a.add j)=o.cells[j]?:=by
 obtain ⟨xs,n,_,rfl,_,hlen,hf⟩:=DataW.trod_struct Tryz.underlying48 h
 match cs,hl,xs,hlen with
 | [v0,v1,v2,v3,v4,v5,v6,v7,v8,v9],_,[y0,y1,y2,y3],_ =>
   have k1:Tryz.prog.cellsOf 3=1:=by kernel_rfl
   have k2:Tryz.prog.cellsOf 43=1:=by kernel_rfl
   have k7:Tryz.prog.cellsOf 46=7:=by kernel_rfl
   have g0:=hf 0 _ rfl
   have g1:=hf 1 _ rfl
   have g2:=hf 2 _ rfl
   have g3:=hf 3 _ rfl
   simp [k1,k2,k7] at g0 g1 g2 g3
   obtain ⟨K,e0,_,w0⟩:=DataW.trod_int Tryz.underlying3 g0
   obtain ⟨l,e,k,v,d,i,z,e1,e2,e3,e4,e5,e6,e7,b1,b2,b3,b4⟩:=rec_cells g1
   obtain ⟨N,e8,_,w8⟩:=DataW.trod_int Tryz.underlying3 g2
   obtain ⟨U,e9,_,w9⟩:=DataW.trod_int Tryz.underlying43 g3
   simp at e0 e8 e9
   subst e0 e1 e2 e3 e4 e5 e6 e7 e8 e9
   exact ⟨⟨K,l,e,k,v,d,i,z,N,U⟩,⟨b1,b2,u64_of w9,b3,b4⟩,hat⟩
end
end Go.Proofs.YtdpmjlbkojhooaaGreat.Lg
