/- A part. -/
import Derived.Test.YtdpmjlbkojhooaaGreatQLgK
namespace Go.Proofs.YtdpmjlbkojhooaaGreat.Lg
open Go.RowKit Go.Lib
open Tb (Tab TIn Sl okP csT lastN nth Fresh)
open Dk (St Only Grew)
set_option linter.unusedVariables false
set_option maxRecDepth 100000
def smG (sg sl:Int) (x:Nat) (rt:Int):Int:=if Ck.MayC sg sl x rt then 4+sg%3 else sg
def smL (sg sl:Int) (x:Nat) (rt:Int):Int:=if Ck.MayC sg sl x rt then 1+sl%5 else sl
set_option maxHeartbeats 4000000 in
theorem small_any (sg sl rt:Int) (x:Nat) (w:World) (hx:x<18446744073709551616) :
 Calls Tryz.prog 10 #[.agg #[.int .i64 sg,.int .i64 sl,.float .f64 x,.int .i64 rt]] w fun e w'=>e=.returned (.agg #[.int .i64 (smG sg sl x rt),.int .i64 (smL sg sl x rt),.float .f64 x,.int .i64 rt])∧Below w.heap.size w w':=by
 have hvC:=Tryz.zeroValue24
 have N1:Tb.Blk (w.alloc (.cells (csF sg sl x rt) 24)) w.heap.size 24 (csF sg sl x rt):=Tb.Blk.new w _ _
 have bb1:=Tb.below1 w (.cells (csF sg sl x rt) 24)
 have N2:Tb.Blk ((w.alloc (.cells (csF sg sl x rt) 24)).alloc (.cells (csF 0 0 0 0) 24)) (w.heap.size+1) 24 (csF 0 0 0 0):=by
  have:=Tb.Blk.new (w.alloc (.cells (csF sg sl x rt) 24)) 24 (csF 0 0 0 0)
  rw [show (w.alloc (.cells (csF sg sl x rt) 24)).heap.size=w.heap.size+1 by simp] at this
  exact this
 have bb2:=bb1.trans ((Tb.below1 (w.alloc (.cells (csF sg sl x rt) 24)) (.cells (csF 0 0 0 0) 24)).mono bb1.size)
 have N1:=N1.later (Tb.below1 _ (.cells (csF 0 0 0 0) 24))
 go_enter Tryz.func10,Tryz.ntmps10
 go_upto_region 1 with (fail)
 change Code.wp _ _ _ _ ((w.alloc (.cells (csF sg sl x rt) 24)).alloc (.cells (csF 0 0 0 0) 24))
 generalize (w.alloc (.cells (csF sg sl x rt) 24)).alloc (.cells (csF 0 0 0 0) 24)=w1 at *
 clear hvC bb1
 by_cases hm:Ck.MayC sg sl x rt
 case neg =>
  have HC:=Lib.hid (fun w=>Ck.R4.may_no sg sl rt x w hx hm)
  have E1:=Lib.hid (show smG sg sl x rt=sg from if_neg hm)
  have E2:=Lib.hid (show smL sg sl x rt=sl from if_neg hm)
  clear hm
  go_wp2_with (with_reducible refine load_cf rfl (.tmp 1) rfl w.heap.size rfl N1 ?_)
  refine (HC.out _).mono ?_
  rintro e' w2 ⟨rfl,hb⟩
  have M1:=N1.later hb
  have M2:=N2.later hb
  have BB:=Lib.hid (bb2.trans (hb.mono bb2.size))
  clear hb HC bb2 N1 N2
  go_wp2_with (first
   | (with_reducible refine load_cf rfl (.tmp 1) rfl w.heap.size rfl M1 ?_)
   | (with_reducible refine store_cf rfl (.tmp 2) (.tmp 15) rfl (w.heap.size+1) rfl rfl M2 ?_))
  exact bodyPost_ret (res_cf rfl _ _ (w.heap.size+1) rfl (M2.row _)) rfl ⟨by rw [E1.out,E2.out],Tb.below_row BB.out (by omega) _⟩
 have HC:=Lib.hid (fun w=>Ck.R4.may_yes sg sl rt x w hm)
 have HB:=Lib.hid (And.intro hm.1 hm.2.1)
 obtain ⟨G,EG⟩:∃ z,sg.tmod 3=z:=⟨_,rfl⟩
 obtain ⟨L,EL⟩:∃ z,sl.tmod 5=z:=⟨_,rfl⟩
 have HG:Hid (sg%3=G):=Lib.hid (by rw [← EG,Int.tmod_eq_emod_of_nonneg (by have:=HB.out; omega)])
 have HL:Hid (sl%5=L):=Lib.hid (by rw [← EL,Int.tmod_eq_emod_of_nonneg (by have:=HB.out; omega)])
 have bG:0≤G∧G<3:=by have:=HG.out; omega
 have bL:0≤L∧L<5:=by have:=HL.out; omega
 have E1:Hid (smG sg sl x rt=4+G):=Lib.hid (by rw [← HG.out]; exact if_pos hm)
 have E2:Hid (smL sg sl x rt=1+L):=Lib.hid (by rw [← HL.out]; exact if_pos hm)
 clear hm
 go_wp2_with (with_reducible refine load_cf rfl (.tmp 1) rfl w.heap.size rfl N1 ?_)
 refine (HC.out _).mono ?_
 rintro e' w2 ⟨rfl,hb⟩
 have M1:=N1.later hb
 have M2:=N2.later hb
 have BB:=Lib.hid (bb2.trans (hb.mono bb2.size))
 have c0:w2.cell? ⟨w.heap.size,0,none⟩=some (.int .i64 sg):=M1.cell 0
 have c0f:=M1.frozen 0
 clear hb HC bb2 N1 N2
 go_upto_region 3 with fail
 rw [set_row M1]
 have M1a:=M1.row ((csF sg sl x rt).setIfInBounds 0 (.int .i64 (4+G)))
 have M2a:Tb.Blk (w2.setRow w.heap.size ((csF sg sl x rt).setIfInBounds 0 (.int .i64 (4+G)))) (w.heap.size+1) 24 (csF 0 0 0 0):=(setRow_other w2 w.heap.size (w.heap.size+1) _ (by omega)).trans M2
 have BA:=Lib.hid (Tb.below_row BB.out (Nat.le_refl _) ((csF sg sl x rt).setIfInBounds 0 (.int .i64 (4+G))))
 change Tb.Blk _ _ _ (csF (4+G) sl x rt) at M1a
 generalize w2.setRow w.heap.size ((csF sg sl x rt).setIfInBounds 0 (.int .i64 (4+G)))=w3 at *
 clear M1 M2 BB c0 c0f
 have c1:w3.cell? ⟨w.heap.size,1,none⟩=some (.int .i64 sl):=M1a.cell 1
 have c1f:=M1a.frozen 1
 go_upto_region 4 with fail
 rw [set_row M1a]
 have M1b:=M1a.row ((csF (4+G) sl x rt).setIfInBounds 1 (.int .i64 (1+L)))
 have M2b:Tb.Blk (w3.setRow w.heap.size ((csF (4+G) sl x rt).setIfInBounds 1 (.int .i64 (1+L)))) (w.heap.size+1) 24 (csF 0 0 0 0):=(setRow_other w3 w.heap.size (w.heap.size+1) _ (by omega)).trans M2a
 have BC:=Lib.hid (Tb.below_row BA.out (Nat.le_refl _) ((csF (4+G) sl x rt).setIfInBounds 1 (.int .i64 (1+L))))
 change Tb.Blk _ _ _ (csF (4+G) (1+L) x rt) at M1b
 generalize w3.setRow w.heap.size ((csF (4+G) sl x rt).setIfInBounds 1 (.int .i64 (1+L)))=w4 at *
 clear M1a M2a BA c1 c1f
 go_wp2_with (first
  | (with_reducible refine load_cf rfl (.tmp 1) rfl w.heap.size rfl M1b ?_)
  | (with_reducible refine store_cf rfl (.tmp 2) (.tmp 15) rfl (w.heap.size+1) rfl rfl M2b ?_))
 exact bodyPost_ret (res_cf rfl _ _ (w.heap.size+1) rfl (M2b.row _)) rfl ⟨by rw [E1.out,E2.out],Tb.below_row BC.out (by omega) _⟩
end Go.Proofs.YtdpmjlbkojhooaaGreat.Lg
namespace Go.Proofs.YtdpmjlbkojhooaaGreat.Lg
open Go.RowKit Go.Lib
open Tb (Tab TIn Sl okP csT lastN nth Fresh)
open Dk (St Only Grew)
set_option linter.unusedVariables false
set_option maxRecDepth 100000
def MadeR (PL:Nat→Nat→Tab→Int→Int→Int→Dk.Item) (W:World) (items:List Dk.Item) (n sg sl:Int) (x:Nat) (rt:Int) (S:ByteArray) (e:Ending) (w' : World):Prop :=
 ((n<1∨4096<n)∧e=.returned (.tuple #[.pointer none,.pointer none,.int .i64 1])∧Dk.Sep W w' items) ∨
 ((1≤n∧n≤4096)∧fmtE (St.new n) sg sl x rt S≠0∧∃ d,e=.returned (.tuple #[.pointer none,.pointer (some ⟨d,0,none⟩),.int .i64 (fmtE (St.new n) sg sl x rt S)])∧Dk.Sep W w' (items++[Dk.diskI d (fmtD (St.new n) sg sl x rt S)])) ∨
 ((1≤n∧n≤4096)∧fmtE (St.new n) sg sl x rt S=0∧∃ g d,e=.returned (.tuple #[.pointer (some ⟨g,0,none⟩),.pointer (some ⟨d,0,none⟩),.int .i64 0])∧Dk.Sep W w' (items++[Dk.diskI d (fmtD (St.new n) sg sl x rt S),PL g d (Tb.newT sg sl 1) 1 1 1]))
set_option maxHeartbeats 4000000 in
theorem made_any {PL:Nat→Nat→Tab→Int→Int→Int→Dk.Item} (P:Prg PL) {W w:World} {items:List Dk.Item} (h:Dk.Sep W w items) (n sg sl rt:Int) (x:Nat) (hx:x<18446744073709551616) (S:ByteArray) (hS:Cp.secL ⟨1,1,1,0,[0],[0]⟩=S.data.toList) :
 Calls Tryz.prog 11 #[.int .i64 n,.agg #[.int .i64 sg,.int .i64 sl,.float .f64 x,.int .i64 rt]] w (MadeR PL W items n sg sl x rt S):=by
 have N1:Tb.Blk (w.alloc (.cells (csF sg sl x rt) 24)) w.heap.size 24 (csF sg sl x rt):=Tb.Blk.new w _ _
 have h1:=h.alloc (.cells (csF sg sl x rt) 24)
 clear h
 go_enter Tryz.func11,Tryz.ntmps11
 go_upto_region 1 with fail
 change Code.wp _ _ _ _ (w.alloc (.cells (csF sg sl x rt) 24))
 obtain ⟨b,hb⟩:∃ b,w.heap.size=b:=⟨_,rfl⟩
 rw [hb] at N1 ⊢
 generalize w.alloc (.cells (csF sg sl x rt) 24)=w1 at *
 clear hb
 by_cases hn:n<1∨4096<n
 ·have HH:=Lib.hid h1
  have HN:=Lib.hid hn
  have HC:=Lib.hid (Dk.new_no (w:=w1) n hn)
  clear h1 hn
  go_wp2_with fail
  refine HC.out.mono ?_
  rintro e' w2 ⟨rfl,rfl⟩
  go_wp2_with fail
  go_ret3
  exact (.inl ⟨HN.out,rfl,HH.out⟩)
 have HN:Hid (1≤n∧n≤4096):=Lib.hid (by omega)
 have HC:=Lib.hid (Dk.new_yes (w:=w1) n HN.out.1 HN.out.2)
 clear hn
 go_wp2_with fail
 refine HC.out.mono ?_
 rintro e' w2 ⟨d,F,rfl,hD,hF,hb2⟩
 have h2:=h1.new (Dk.diskI d (St.new n)) hD hF hb2
 have M1:=N1.later hb2
 have HF:=Lib.hid (P.fmt h2 app_last sg sl rt x hx (by simp [Dk.St.new]) S hS)
 rw [app_set_last] at HF
 clear HC h1 h2 N1 hD hF hb2
 go_wp2_with (with_reducible refine load_cf rfl (.tmp 3) rfl b rfl M1 ?_)
 refine HF.out.mono ?_
 rintro e' w3 (⟨h0,g,rfl,h3⟩ | ⟨h0,rfl,h3⟩)
 ·have H3:=Lib.hid (And.intro h0 h3)
  clear HF h0 h3 M1
  go_wp2_with fail
  go_ret3
  exact (.inr (.inr ⟨HN.out,H3.out.1,g,d,rfl,by have:=H3.out.2; rw [List.append_assoc] at this; exact this⟩))
 ·have H3:=Lib.hid (And.intro h0 h3)
  clear HF h0 h3 M1
  go_wp2_with fail
  go_ret3
  exact (.inr (.inl ⟨HN.out,H3.out.1,d,rfl,H3.out.2⟩))
end Go.Proofs.YtdpmjlbkojhooaaGreat.Lg
namespace Go.Proofs.YtdpmjlbkojhooaaGreat.Lg
open Go.RowKit Go.Lib
open Tb (Tab TIn Sl okP csT lastN nth Fresh)
open Dk (St Only Grew)
set_option linter.unusedVariables false
set_option maxRecDepth 100000
inductive Cn where
 | any
 | is (v:Value)
 | tab (t:Tab)
def Cn.p:Cn→World→Value→Prop
 | .any=>fun _ _=>True
 | .is v=>fun _ u=>u=v
 | .tab t=>fun W u=>∃ A m p B k q C n r,u=.agg #[.int .i64 t.sg,.int .i64 t.st,.slice A m p,.slice B k q,.slice C n r]∧TIn W A m B k C n t.o t.l t.f
theorem Cn.later (c:Cn) {W W' : World} {u:Value} (hb:Below W.heap.size W W') (h:c.p W u):c.p W' u:=by
 cases c with
 | any=>exact trivial
 | is v=>exact h
 | tab t =>
   obtain ⟨A,m,p,B,k,q,C,n,r,e,s⟩:=h
   exact ⟨A,m,p,B,k,q,C,n,r,e,s.later hb⟩
theorem slot_is {xs:Array Value} {n:Nat} {v:Value} (h:xs.getD n undef=v):xs[n]?.getD undef=v:=by simpa using h
theorem slot_tab {xs:Array Value} {n:Nat} {W:World} {t:Tab} (h:Cn.p (.tab t) W (xs.getD n undef)):Cn.p (.tab t) W (xs[n]?.getD undef):=by simpa using h
theorem wp_cn {P:Program} {id:Nat} {Q:Exit→Act→World→Prop} {w0 w:World} {ops:List Oper} {a0:Act} (cs:List Cn) (L:List (Nat × TypeId × Array Value)) (M:List (IntKind × Option Addr × Nat × List Int))
 (hm:P.follows .mixedOrders=true) (hB:FreeG.okB ops.toArray a0.tmps.size=true) (hI:Tb.Its w0 L M w)
 (hS:FreeG.Steps P ops.toArray (cs.map Cn.p) (Tb.Its w0 L M) (fun W W'=>Below W.heap.size W W') a0 Q 0 ops)
 (fin:∀ a w,Free.At ops.toArray (cs.map Cn.p) (Tb.Its w0 L M) a0 (Array.replicate ops.length true) a w→Q .normal a w):(Code.region id ops.toArray true).wp P Q a0 w:=by
 refine FreeG.wp_freeG _ _ _ hm hB hI.drawn (fun _ _ h hb=>h.later hb) ?_ hS fin
 intro p hp W W' v hb hv
 obtain ⟨c,_,rfl⟩:=List.mem_map.1 hp
 exact c.later hb hv
theorem arrF144 {cs:Array Value} (h:cs.size=144):∃ y:Nat→Value,(∀ i,cs.getD i undef=y i)∧cs=#[y 0,y 1,y 2,y 3,y 4,y 5,y 6,y 7,y 8,y 9,y 10,y 11,y 12,y 13,y 14,y 15,y 16,y 17,y 18,y 19,y 20,y 21,y 22,y 23,y 24,y 25,y 26,y 27,y 28,y 29,y 30,y 31,y 32,y 33,y 34,y 35,y 36,y 37,y 38,y 39,y 40,y 41,y 42,y 43,y 44,y 45,y 46,y 47,y 48,y 49,y 50,y 51,y 52,y 53,y 54,y 55,y 56,y 57,y 58,y 59,y 60,y 61,y 62,y 63,y 64,y 65,y 66,y 67,y 68,y 69,y 70,y 71,y 72,y 73,y 74,y 75,y 76,y 77,y 78,y 79,y 80,y 81,y 82,y 83,y 84,y 85,y 86,y 87,y 88,y 89,y 90,y 91,y 92,y 93,y 94,y 95,y 96,y 97,y 98,y 99,y 100,y 101,y 102,y 103,y 104,y 105,y 106,y 107,y 108,y 109,y 110,y 111,y 112,y 113,y 114,y 115,y 116,y 117,y 118,y 119,y 120,y 121,y 122,y 123,y 124,y 125,y 126,y 127,y 128,y 129,y 130,y 131,y 132,y 133,y 134,y 135,y 136,y 137,y 138,y 139,y 140,y 141,y 142,y 143]:=by
 refine ⟨fun i=>cs.getD i undef,fun _=>rfl,?_⟩
 have e:cs=((List.range 144).map fun i=>cs.getD i undef).toArray:=by
  apply Array.ext
  ·simp [h]
  ·intro i h1 h2
   simp [h1]
 exact e.trans rfl
def cs7 (l e k v d:Int) (i a:ByteArray):Array Value:=#[.int .u64 l,.int .u32 e,.int .i64 k,.int .u64 v,.int .u64 d,.string i,.string a]
theorem info_pr:(Tryz.prog.info? 46).map (·.size)=some 7:=by kernel_rfl
section
variable {ops:Array Oper} {rest:List Oper} {o:Oper} {a:Act} {w:World} {Q:Exit→Act→World→Prop}
theorem load_pr (hgd:o.guard=none) (x:Operand) (ho:o.op=.load 46 x) (b:Nat) (hx:a.eval x=.pointer (some ⟨b,0,none⟩)) {l e k v d:Int} {i z:ByteArray} {t:TypeId} (hg:Tb.Blk w b t (cs7 l e k v d i z))
 (h:wpList Tryz.prog ops Q rest (a.put o.dst (.agg #[.int .u64 l,.int .u32 e,.int .i64 k,.int .u64 v,.int .u64 d,.string i,.string z])) w):wpList Tryz.prog ops Q (o :: rest) a w :=
 wpList_load_row hgd _ x ho b hx _ (cs7 l e k v d i z) (0,0) _ hg Tryz.underlying46 rfl info_pr h
theorem store_pr (hgd:o.guard=none) (x y:Operand) (ho:o.op=.store 46 x y) (b:Nat) (hx:a.eval x=.pointer (some ⟨b,0,none⟩)) {l e k v d:Int} {i z:ByteArray} (hy:a.eval y=.agg #[.int .u64 l,.int .u32 e,.int .i64 k,.int .u64 v,.int .u64 d,.string i,.string z]) {l' e' k' v' d' : Int} {i' z' : ByteArray} {t:TypeId} (hg:Tb.Blk w b t (cs7 l' e' k' v' d' i' z'))
 (h:wpList Tryz.prog ops Q rest (a.put o.dst undef) (w.setRow b (cs7 l e k v d i z))):wpList Tryz.prog ops Q (o :: rest) a w :=
 wpList_store_row hgd _ x y ho b (cs7 l e k v d i z) hx hy _ _ hg info_pr rfl (by simp [cs7,Value.oneCell']) h
theorem store_qr (hgd:o.guard=none) (x y:Operand) (ho:o.op=.store 70 x y) (b:Nat) (hx:a.eval x=.pointer (some ⟨b,0,none⟩)) {l e k v d:Int} {i z:ByteArray} (hy:a.eval y=.agg #[.int .u64 l,.int .u32 e,.int .i64 k,.int .u64 v,.int .u64 d,.string i,.string z]) {l' e' k' v' d' : Int} {i' z' : ByteArray} {t:TypeId} (hg:Tb.Blk w b t (cs7 l' e' k' v' d' i' z'))
 (h:wpList Tryz.prog ops Q rest (a.put o.dst undef) (w.setRow b (cs7 l e k v d i z))):wpList Tryz.prog ops Q (o :: rest) a w :=
 wpList_store_row hgd _ x y ho b (cs7 l e k v d i z) hx hy _ _ hg info_rec rfl (by simp [cs7,Value.oneCell']) h
end
theorem read_cells (t:Tab) (s:St) (seg slot:Int):∃ l e k v d i a y,readS t s seg slot=(cs7 l e k v d i a,y):=by
 unfold readS
 split
 ·exact ⟨_,_,_,_,_,_,_,_,rfl⟩
 ·unfold cutC
  split
  ·exact ⟨_,_,_,_,_,_,_,_,rfl⟩
  ·exact ⟨_,_,_,_,_,_,_,_,rfl⟩
def four (PL:Nat→Nat→Tab→Int→Int→Int→Dk.Item) (d g r g2:Nat) (s:St) (t:Tab) (ls ep gn:Int):List Dk.Item:=[Dk.diskI d s,PL g d t ls ep gn,Dk.refI r s,logI 121 g2 r t ls ep gn]
def StepR (PL:Nat→Nat→Tab→Int→Int→Int→Dk.Item) (c:Nat) (W:World) (d g r g2:Nat) (ep:Int) (e:Ending) (w' : World):Prop :=
 ∃ s t ls gn,LogP (c+2) t s ls gn∧((e=.returned (.int .i64 1)∧Dk.Sep W w' (four PL d g r g2 s t ls ep gn))∨(e=.returned (.int .i64 2)∧∃ i1 i2,Dk.Sep W w' [Dk.diskI d s,i1,Dk.refI r s,i2]))
end Go.Proofs.YtdpmjlbkojhooaaGreat.Lg
