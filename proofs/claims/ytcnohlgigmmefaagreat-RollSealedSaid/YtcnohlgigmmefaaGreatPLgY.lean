/- A part. -/
import Derived.Test.YtcnohlgigmmefaaGreatPLgI
namespace Go.Proofs.YtcnohlgigmmefaaGreat.Lg
open Go.RowKit Go.Lib
open Tb (Tab TIn Sl okP csT lastN nth Fresh)
open Dk (St Only Grew)
set_option linter.unusedVariables false
theorem not_dead {s:St} (h:s.set=false):¬ s.dead:=fun e=>by
 have h1:=e.1
 rw [h] at h1
 cases h1
theorem app_same {t:Tab} {s:St} {ls ep K V D:Int} {I X:ByteArray} (hnd:s.set=false) (hr:0<Tb.roomT t) (hK:K≠3) (hR:Rc.okR ⟨ls,ep,K,V,D,I.data.toList,X.data.toList⟩=true) (hl:lastN t.l≠t.st) :
 appS t s ls ep K V D I X=(s.write (Tb.sectorT t.st (lastN t.o) (lastN t.l)) (secB ⟨ls,ep,K,V,D,I.data.toList,X.data.toList⟩),Tb.countedT t,ls+1,lastN t.o,lastN t.l,0):=by
 have E:sealIf t s ls ep=(s,t,ls,0):=if_neg hl
 unfold appS
 rw [if_neg (by rw [hR]; simp [hK]),if_neg (by omega),E]
 simp only
 rw [if_neg (by decide)]
 unfold appS.putS
 rw [if_neg (not_dead hnd)]
theorem app_roll {t:Tab} {s:St} {ls ep K V D f:Int} {l:List Int} {I X:ByteArray} (hnd:s.set=false) (hr:0<Tb.roomT t) (hK:K≠3) (hR:Rc.okR ⟨ls,ep,K,V,D,I.data.toList,X.data.toList⟩=true) (hl:lastN t.l=t.st) (hf:Tb.freeT t=f :: l) :
 appS t s ls ep K V D I X=((s.write (Tb.sectorT t.st (lastN t.o) (lastN t.l)) (footB t ls ep)).write (Tb.sectorT t.st f 0) (secB ⟨ls+1,ep,K,V,D,I.data.toList,X.data.toList⟩),Tb.countedT (Tb.openedT t f (ls+1)),ls+2,f,0,0):=by
 have E:sealIf t s ls ep=(s.write (Tb.sectorT t.st (lastN t.o) (lastN t.l)) (footB t ls ep),Tb.openedT t f (ls+1),ls+1,0):=by
  unfold sealIf
  rw [if_pos hl]
  unfold sealS
  simp only [hf]
  rw [if_neg (not_dead hnd)]
 have e1:lastN (Tb.openedT t f (ls+1)).o=f:=Tb.last_app ..
 have e2:lastN (Tb.openedT t f (ls+1)).l=0:=Tb.last_app ..
 unfold appS
 rw [if_neg (by rw [hR]; simp [hK]),if_neg (by omega),E]
 simp only
 rw [if_neg (by decide)]
 unfold appS.putS
 have hnd2:¬ (s.write (Tb.sectorT t.st (lastN t.o) (lastN t.l)) (footB t ls ep)).dead:=not_dead hnd
 rw [if_neg hnd2,e1,e2,show ls+1+1=ls+2 by omega]
 rfl
theorem free_upto {m n:Nat} (h:m<n):∃ l,Tb.freeTo (Tb.upto m) n=(m:Int) :: l:=by
 have key:∀ d,∃ l,Tb.freeTo (Tb.upto m) (m+1+d)=(m:Int) :: l:=by
  have h0:∀ k,k≤m→Tb.freeTo (Tb.upto m) k=[]:=by
   intro k
   induction k with
   | zero=>intro _; exact Tb.freeTo_zero _
   | succ k ih=>intro hk; rw [Tb.freeTo_no (Tb.mem_upto.2 ⟨by omega,by omega⟩)]; exact ih (by omega)
  intro d
  induction d with
  | zero=>exact ⟨[],by rw [Nat.add_zero,Tb.freeTo_yes (fun hm=>by have:=(Tb.mem_upto.1 hm).2; omega),h0 m (Nat.le_refl _)]; rfl⟩
  | succ d ih =>
    obtain ⟨l,e⟩:=ih
    rw [show m+1+(d+1)=(m+1+d)+1 by omega]
    refine ⟨l++[((m+1+d:Nat):Int)],?_⟩
    rw [Tb.freeTo_yes (fun hm=>by have:=(Tb.mem_upto.1 hm).2; omega),e]
    rfl
 obtain ⟨l,e⟩:=key (n-(m+1))
 rw [show m+1+(n-(m+1))=n by omega] at e
 exact ⟨l,e⟩
end Go.Proofs.YtcnohlgigmmefaaGreat.Lg
namespace Go.Proofs.YtcnohlgigmmefaaGreat.Lg
open Go.RowKit Go.Lib
open Tb (Tab TIn Sl okP csT lastN nth Fresh)
open Dk (St Only Grew)
set_option linter.unusedVariables false
structure Fill (t:Tab) (ls:Int) (j x:Nat):Prop where
 o:t.o=Tb.upto j
 l:t.l=List.replicate (j-1) t.st++[(x:Int)]
 j1:1≤j
 x1:(x:Int)≤t.st
 ls:ls=((j:Int)-1)*t.st+x+j
theorem fill_new (sg st:Int) (h:1≤st):Fill (Tb.newT sg st 1) 1 1 0 :=
 ⟨rfl,rfl,Nat.le_refl _,by show ((0:Nat):Int)≤st; omega,by simp⟩
theorem upto_len (n:Nat):(Tb.upto n).length=n:=by simp [Tb.upto]
section
variable {t:Tab} {ls:Int} {j x:Nat}
theorem Fill.lasts (h:Fill t ls j x):lastN t.o=(j:Int)-1∧lastN t.l=x:=by
 obtain ⟨k,rfl⟩:∃ k,j=k+1:=⟨j-1,by have:=h.j1; omega⟩
 refine ⟨?_,?_⟩
 ·rw [h.o,Tb.upto_succ,Tb.last_app]
  omega
 ·rw [h.l,Tb.last_app]
theorem Fill.room (h:Fill t ls j x):Tb.roomT t=t.st-x+t.st*(t.sg-j):=by
 unfold Tb.roomT
 rw [h.lasts.2,h.o,upto_len]
theorem Fill.used (h:Fill t ls j x):Tb.usedT t=((j:Int)-1)*t.st+x:=by
 have hS:∀ (n:Nat) (c:Int),Tb.S (List.replicate n c)=n*c:=by
  intro n c
  induction n with
  | zero=>simp [Tb.S]
  | succ n ih =>
    rw [List.replicate_succ]
    show c+Tb.S (List.replicate n c)=_
    rw [ih,show ((n+1:Nat):Int)=(n:Int)+1 by omega,Int.add_mul,Int.one_mul]
    omega
 rw [Tb.used_S,h.l,Tb.S_app,hS]
 show _+((x:Int)+0)=_
 have:=h.j1
 rw [show ((j-1:Nat):Int)=(j:Int)-1 by omega]
 omega
theorem Fill.same (h:Fill t ls j x) (hx:(x:Int)<t.st):Fill (Tb.countedT t) (ls+1) j (x+1):=by
 refine ⟨h.o,?_,h.j1,by show ((x+1:Nat):Int)≤t.st; omega,by show ls+1=_*t.st+_+_; have:=h.ls; omega⟩
 show t.l.set (t.l.length-1) (lastN t.l+1)=List.replicate (j-1) t.st++[((x+1:Nat):Int)]
 rw [h.lasts.2,h.l]
 have e:(List.replicate (j-1) t.st++[(x:Int)]).length-1=(List.replicate (j-1) t.st).length:=by simp
 rw [e,List.set_append_right _ _ (Nat.le_refl _),Nat.sub_self]
 rfl
theorem Fill.next (h:Fill t ls j x) (hsg:(j:Int)<t.sg):∃ l,Tb.freeT t=(j:Int) :: l:=by
 unfold Tb.freeT
 rw [h.o]
 exact free_upto (by omega)
theorem Fill.none (h:Fill t ls j x) (hsg:(j:Int)=t.sg) (hok:okP t):Tb.freeT t=[]:=by
 have h1:=Tb.ok_free hok
 rw [h.o,upto_len] at h1
 exact List.eq_nil_of_length_eq_zero (by omega)
theorem Fill.opened (h:Fill t ls j x) (hx:(x:Int)=t.st) (y:Int):Fill (Tb.openedT t j y) (ls+1) (j+1) 0:=by
 have hj:=h.j1
 refine ⟨by show t.o++[(j:Int)]=_; rw [h.o,Tb.upto_succ],?_,by omega,by show ((0:Nat):Int)≤t.st; omega,?_⟩
 ·show t.l++[0]=List.replicate (j+1-1) t.st++[((0:Nat):Int)]
  rw [h.l,hx,Nat.add_sub_cancel]
  congr 1
  obtain ⟨k,rfl⟩:∃ k,j=k+1:=⟨j-1,by omega⟩
  rw [Nat.add_sub_cancel,List.replicate_succ']
 ·show ls+1=(((j+1:Nat):Int)-1)*t.st+((0:Nat):Int)+((j+1:Nat):Int)
  rw [h.ls,hx,show ((j+1:Nat):Int)-1=((j:Int)-1)+1 by omega,Int.add_mul,Int.one_mul]
  omega
theorem Fill.roll (h:Fill t ls j x) (hx:(x:Int)=t.st) (hs:1≤t.st) (y:Int):Fill (Tb.countedT (Tb.openedT t j y)) (ls+2) (j+1) 1:=by
 have:=(h.opened hx y).same (by show ((0:Nat):Int)<t.st; omega)
 rw [show ls+1+1=ls+2 by omega] at this
 exact this
theorem Fill.app {c:Nat} {s:St} {ep gn K V D:Int} {I X:ByteArray} (h:Fill t ls j x) (hP:LogP c t s ls gn) (hnd:s.set=false) (hr:0<Tb.roomT t) (hK:K≠3) (hR:Rc.okR ⟨ls,ep,K,V,D,I.data.toList,X.data.toList⟩=true) :
 ∃ s1 t1 l1 sg so j1 x1,appS t s ls ep K V D I X=(s1,t1,l1,sg,so,0)∧s1.set=false∧LogP (c+2) t1 s1 l1 gn∧Fill t1 l1 j1 x1∧t1.st=t.st∧t1.sg=t.sg∧Tb.usedT t1=Tb.usedT t+1∧Tb.roomT t1=Tb.roomT t-1 ∧
   (((x:Int)<t.st∧j1=j∧x1=x+1∧sg=(j:Int)-1∧so=x∧s1.pend.length=s.pend.length+1)∨((x:Int)=t.st∧j1=j+1∧x1=1∧sg=j∧so=0∧s1.pend.length=s.pend.length+2)):=by
 have hA:=app_p (ep:=ep) (K:=K) (V:=V) (D:=D) (I:=I) (X:=X) hP
 have hla:=h.lasts
 have hx:=h.x1
 have hst:=hP.ok.2.1
 by_cases hl:(x:Int)=t.st
 ·have hj:(j:Int)<t.sg:=by
   have h1:=h.room
   rw [hl] at h1
   have h2:t.st*(t.sg-j) > 0:=by omega
   rcases Int.lt_or_le (j:Int) t.sg with h3|h3
   ·exact h3
   ·have:=Int.mul_nonneg (show 0≤t.st by omega) (show 0≤(j:Int)-t.sg by omega)
    rw [show (j:Int)-t.sg = -(t.sg-j) by omega,Int.mul_neg] at this
    omega
  obtain ⟨l,hf⟩:=h.next hj
  have E:=app_roll (ep:=ep) hnd hr hK hR (hla.2.trans hl) hf
  have F:=h.roll hl hst.1 (ls+1)
  rw [E] at hA
  have e1:=F.room
  have e2:=F.used
  have e3:=h.room
  have e4:=h.used
  have f1:(Tb.countedT (Tb.openedT t j (ls+1))).st=t.st:=rfl
  have f2:(Tb.countedT (Tb.openedT t j (ls+1))).sg=t.sg:=rfl
  rw [f1,f2] at e1
  rw [f1] at e2
  refine ⟨_,_,_,_,_,_,_,E,hnd,hA,F,rfl,rfl,?_,?_,.inr ⟨hl,rfl,rfl,rfl,rfl,?_⟩⟩
  ·rw [e2,e4,hl,show ((j+1:Nat):Int)-1=((j:Int)-1)+1 by omega,Int.add_mul,Int.one_mul]
   omega
  ·rw [e1,e3,hl,show t.sg-((j+1:Nat):Int)=(t.sg-j)-1 by omega,Int.mul_sub,Int.mul_one]
   omega
  ·show ((s.pend++[_])++[_]).length=_
   simp
 ·have hlt:(x:Int)<t.st:=by omega
  have E:=app_same (ep:=ep) hnd hr hK hR (by rw [hla.2]; exact hl)
  have F:=h.same hlt
  rw [E] at hA
  have e1:=F.room
  have e2:=F.used
  have e3:=h.room
  have e4:=h.used
  have f1:(Tb.countedT t).st=t.st:=rfl
  have f2:(Tb.countedT t).sg=t.sg:=rfl
  rw [f1,f2] at e1
  rw [f1] at e2
  refine ⟨_,_,_,_,_,_,_,E,hnd,hA,F,rfl,rfl,by rw [e2,e4]; omega,by rw [e1,e3]; omega,.inl ⟨hlt,rfl,rfl,hla.1,hla.2,?_⟩⟩
  show (s.pend++[_]).length=_
  simp
end
end Go.Proofs.YtcnohlgigmmefaaGreat.Lg
namespace Go.Proofs.YtcnohlgigmmefaaGreat.Lg
open Go.RowKit Go.Lib
open Tb (Tab TIn Sl okP csT lastN nth Fresh)
open Dk (St Only Grew)
set_option linter.unusedVariables false
set_option maxRecDepth 100000
structure Prg (PL:Nat→Nat→Tab→Int→Int→Int→Dk.Item):Prop where
 fmt:∀ {W w:World} {items:List Dk.Item} {k d:Nat} {s:St},Dk.Sep W w items→items[k]? = some (Dk.diskI d s)→∀ (sg sl rt:Int) (x:Nat),x<18446744073709551616→s.pend.length<1048576→∀ S:ByteArray,Cp.secL ⟨1,1,1,0,[0],[0]⟩=S.data.toList →
  Calls Tryz.prog 35 #[.pointer (some ⟨d,0,none⟩),.agg #[.int .i64 sg,.int .i64 sl,.float .f64 x,.int .i64 rt]] w fun e w' =>
   (fmtE s sg sl x rt S=0∧∃ g,e=.returned (.tuple #[.pointer (some ⟨g,0,none⟩),.int .i64 0])∧Dk.Sep W w' (items.set k (Dk.diskI d (fmtD s sg sl x rt S))++[PL g d (Tb.newT sg sl 1) 1 1 1])) ∨
   (fmtE s sg sl x rt S≠0∧e=.returned (.tuple #[.pointer none,.int .i64 (fmtE s sg sl x rt S)])∧Dk.Sep W w' (items.set k (Dk.diskI d (fmtD s sg sl x rt S))))
 app:∀ {W w:World} {items:List Dk.Item} {k j g d:Nat} {s:St} {t:Tab} {ls ep gn:Int},Dk.Sep W w items→items[k]? = some (Dk.diskI d s)→items[j]? = some (PL g d t ls ep gn)→k≠j→∀ (l0 e0 K V D:Int) (I X:ByteArray),
  1≤ls∧ls+2<18446744073709551616→0≤ep∧ep<4294967296→0≤V∧V<18446744073709551616→0≤D∧D<18446744073709551616→I.size≤maxLen→X.size≤maxLen→okP t→FitS t s→s.pend.length+2<1048576 →
  Calls Tryz.prog 37 #[.pointer (some ⟨g,0,none⟩),.agg #[.int .u64 l0,.int .u32 e0,.int .i64 K,.int .u64 V,.int .u64 D,.string I,.string X]] w fun e w' =>
   e=.returned (.tuple #[.agg #[.int .i64 (appS t s ls ep K V D I X).2.2.2.1,.int .i64 (appS t s ls ep K V D I X).2.2.2.2.1],.int .i64 (appS t s ls ep K V D I X).2.2.2.2.2]) ∧
   ∃ it,Dk.Sep W w' ((items.set k (Dk.diskI d (appS t s ls ep K V D I X).1)).set j it)∧((appS t s ls ep K V D I X).2.2.2.2.2≠9→it=PL g d (appS t s ls ep K V D I X).2.1 (appS t s ls ep K V D I X).2.2.1 ep gn)
 sealc:∀ {W w:World} {items:List Dk.Item} {k j g d:Nat} {s:St} {t:Tab} {ls ep gn:Int},Dk.Sep W w items→items[k]? = some (Dk.diskI d s)→items[j]? = some (PL g d t ls ep gn)→k≠j →
  1≤ls∧ls+2<18446744073709551616→0≤ep∧ep<4294967296→okP t→FitS t s→s.pend.length+2<1048576 →
  Calls Tryz.prog 48 #[.pointer (some ⟨g,0,none⟩)] w fun e w' =>
   e=.returned (.int .i64 (sealS t s ls (footB t ls ep)).2.2.2) ∧
   ∃ it,Dk.Sep W w' ((items.set k (Dk.diskI d (sealS t s ls (footB t ls ep)).1)).set j it)∧((sealS t s ls (footB t ls ep)).2.2.2≠9→it=PL g d (sealS t s ls (footB t ls ep)).2.1 (sealS t s ls (footB t ls ep)).2.2.1 ep gn)
 chk:∀ {W w:World} {items:List Dk.Item} {k j g d:Nat} {s:St} {t:Tab} {ls ep gn:Int},Dk.Sep W w items→items[k]? = some (Dk.diskI d s)→items[j]? = some (PL g d t ls ep gn)→k≠j→∀ ver:Int,0≤ver∧ver<18446744073709551616 →
  1≤ls∧ls<18446744073709551616→0≤ep∧ep<4294967296→0≤gn∧gn<9223372036854775807→okP t→2≤s.size→s.pend.length<1048576→∀ S:ByteArray,Cp.secL ⟨gn+1,ep,ls,ver,t.o,t.l⟩=S.data.toList →
  Calls Tryz.prog 73 #[.pointer (some ⟨g,0,none⟩),.int .u64 ver] w fun e w' =>
   e=.returned (.int .i64 (chkS s gn S).2.2)∧∃ it,Dk.Sep W w' ((items.set k (Dk.diskI d (chkS s gn S).1)).set j it)∧((chkS s gn S).2.2≠9→it=PL g d t ls ep (chkS s gn S).2.1)
 drop:∀ {W w:World} {items:List Dk.Item} {k j g d:Nat} {s:St} {t:Tab} {ls ep gn:Int},Dk.Sep W w items→items[k]? = some (Dk.diskI d s)→items[j]? = some (PL g d t ls ep gn)→k≠j→∀ x ver:Int,0≤ver∧ver<18446744073709551616 →
  1≤ls∧ls<18446744073709551616→0≤ep∧ep<4294967296→0≤gn∧gn<9223372036854775807→okP t→2≤s.size→s.pend.length<1048576→∀ S:ByteArray,(∀ t',Tb.dropT t x=some t'→Cp.secL ⟨gn+1,ep,ls,ver,t'.o,t'.l⟩=S.data.toList) →
  Calls Tryz.prog 99 #[.pointer (some ⟨g,0,none⟩),.int .i64 x,.int .u64 ver] w fun e w' =>
   e=.returned (.int .i64 (dropS t x s gn S).2.2.2)∧∃ it,Dk.Sep W w' ((items.set k (Dk.diskI d (dropS t x s gn S).1)).set j it)∧((dropS t x s gn S).2.2.2≠9→it=PL g d (dropS t x s gn S).2.1 ls ep (dropS t x s gn S).2.2.1)
 read:∀ {W w:World} {items:List Dk.Item} {k j g d:Nat} {s:St} {t:Tab} {ls ep gn:Int},Dk.Sep W w items→items[k]? = some (Dk.diskI d s)→items[j]? = some (PL g d t ls ep gn)→k≠j→∀ seg slot:Int,okP t→s.Good→FitS t s→s.pend.length<1048576 →
  Calls Tryz.prog 103 #[.pointer (some ⟨g,0,none⟩),.agg #[.int .i64 seg,.int .i64 slot]] w fun e w'=>e=.returned (.tuple #[.agg (readS t s seg slot).1,.int .i64 (readS t s seg slot).2])∧Below w.heap.size w w'
 tab:∀ {W w:World} {items:List Dk.Item} {j g d:Nat} {t:Tab} {ls ep gn:Int},Dk.Sep W w items→items[j]? = some (PL g d t ls ep gn) →
  Calls Tryz.prog 28 #[.pointer (some ⟨g,0,none⟩)] w fun e w'=>∃ A m p B k q C n r W1,e=.returned (.agg #[.int .i64 t.sg,.int .i64 t.st,.slice A m p,.slice B k q,.slice C n r])∧TIn w' A m B k C n t.o t.l t.f∧(Fresh W1 w.heap.size A m∧Fresh W1 w.heap.size B k∧Fresh W1 w.heap.size C n)∧Below w.heap.size w w'
 lsn:∀ {W w:World} {items:List Dk.Item} {j g d:Nat} {t:Tab} {ls ep gn:Int},Dk.Sep W w items→items[j]? = some (PL g d t ls ep gn)→Calls Tryz.prog 23 #[.pointer (some ⟨g,0,none⟩)] w fun e w'=>e=.returned (.int .u64 ls)∧Below w.heap.size w w'
 epoch:∀ {W w:World} {items:List Dk.Item} {j g d:Nat} {t:Tab} {ls ep gn:Int},Dk.Sep W w items→items[j]? = some (PL g d t ls ep gn)→Calls Tryz.prog 24 #[.pointer (some ⟨g,0,none⟩)] w fun e w'=>e=.returned (.int .u32 ep)∧Below w.heap.size w w'
 gen:∀ {W w:World} {items:List Dk.Item} {j g d:Nat} {t:Tab} {ls ep gn:Int},Dk.Sep W w items→items[j]? = some (PL g d t ls ep gn)→Calls Tryz.prog 25 #[.pointer (some ⟨g,0,none⟩)] w fun e w'=>e=.returned (.int .u64 gn)∧Below w.heap.size w w'
 ok:∀ {W w:World} {items:List Dk.Item} {j g d:Nat} {t:Tab} {ls ep gn:Int},Dk.Sep W w items→items[j]? = some (PL g d t ls ep gn)→okP t
def csF (sg sl:Int) (x:Nat) (rt:Int):Array Value:=#[.int .i64 sg,.int .i64 sl,.float .f64 x,.int .i64 rt]
theorem info_cf:(Tryz.prog.info? 24).map (·.size)=some 4:=by kernel_rfl
section
variable {ops:Array Oper} {rest:List Oper} {o:Oper} {a:Act} {w:World} {Q:Exit→Act→World→Prop}
theorem load_cf (hgd:o.guard=none) (x:Operand) (ho:o.op=.load 24 x) (b:Nat) (hx:a.eval x=.pointer (some ⟨b,0,none⟩)) {sg sl rt:Int} {y:Nat} {t:TypeId} (hg:Tb.Blk w b t (csF sg sl y rt))
 (h:wpList Tryz.prog ops Q rest (a.put o.dst (.agg #[.int .i64 sg,.int .i64 sl,.float .f64 y,.int .i64 rt])) w):wpList Tryz.prog ops Q (o :: rest) a w :=
 wpList_load_row hgd _ x ho b hx _ (csF sg sl y rt) (0,0) _ hg Tryz.underlying24 rfl info_cf h
theorem store_cf (hgd:o.guard=none) (x y:Operand) (ho:o.op=.store 24 x y) (b:Nat) (hx:a.eval x=.pointer (some ⟨b,0,none⟩)) {sg sl rt:Int} {z:Nat} (hy:a.eval y=.agg #[.int .i64 sg,.int .i64 sl,.float .f64 z,.int .i64 rt]) {sg0 sl0 rt0:Int} {z0:Nat} {t:TypeId} (hg:Tb.Blk w b t (csF sg0 sl0 z0 rt0))
 (h:wpList Tryz.prog ops Q rest (a.put o.dst undef) (w.setRow b (csF sg sl z rt))):wpList Tryz.prog ops Q (o :: rest) a w :=
 wpList_store_row hgd _ x y ho b (csF sg sl z rt) hx hy _ _ hg info_cf rfl (by simp [csF,Value.oneCell']) h
end
theorem res_cf {fn:Func} {p' : Tmp} (h:fn.results=#[.cell p' 24]) (tmps:Array Value) (W:World) (b:Nat) {sg sl rt:Int} {y:Nat} {t:TypeId} (hp:tmps.getD p' undef=.pointer (some ⟨b,0,none⟩)) (L:Tb.Blk W b t (csF sg sl y rt)) :
 (results fn tmps).run Tryz.prog W=.ok (.agg #[.int .i64 sg,.int .i64 sl,.float .f64 y,.int .i64 rt]) W :=
 results_cell_row h tmps W b t (csF sg sl y rt) (0,0) _ hp L Tryz.underlying24 rfl info_cf
end Go.Proofs.YtcnohlgigmmefaaGreat.Lg
