/- A part. -/
import Derived.Test.YtcnohlgigmmefaaGreatPLwW
import Derived.Test.YtcnohlgigmmefaaGreatPLwC
import Derived.Test.YtcnohlgigmmefaaGreatPShelf
import Derived.Test.YtcnohlgigmmefaaGreatPMem
import Derived.Test.YtcnohlgigmmefaaGreatPClass
import Derived.WalkLawsBesides
import Derived.WalkSmall
import Derived.Deep.LoopGhost
import Derived.Deep.QuietTactic
import Derived.BigQuiet
import Derived.Deep.RegionWith
import Derived.Deep.WholeRow
import Derived.Deep.MidRow
import Derived.Laws.BytesArg
import Derived.StillTailTactics
import Derived.IntWalk
import Derived.Deep.DeepCutAuto
import Derived.Deep.OwnRows
import Derived.Laws.OwnMore
import Derived.Defers
import Derived.Recover
namespace Go.Proofs.YtcnohlgigmmefaaGreat.Cp
open Go.RowKit Go.Lib
set_option linter.unusedVariables false
set_option maxRecDepth 100000
open Go.RowKit Go.Lib Wd Cr
set_option linter.unusedVariables false
structure Chk where
 g:Int
 e:Int
 l:Int
 v:Int
 o:List Int
 n:List Int
deriving DecidableEq
structure Fits (c:Chk):Prop where
 g0:0≤c.g
 g1:c.g<18446744073709551616
 e0:0≤c.e
 e1:c.e<4294967296
 l0:0≤c.l
 l1:c.l<18446744073709551616
 v0:0≤c.v
 v1:c.v<18446744073709551616
def segB (o n:List Int):Bool:=decide (1≤o.length∧o.length≤16∧n.length=o.length∧(∀ x∈o,0≤x∧x<16)∧(∀ x∈n,0≤x∧x≤30)∧o.Nodup)
theorem segB_iff (o n:List Int):segB o n=true↔1≤o.length∧o.length≤16∧n.length=o.length∧(∀ x∈o,0≤x∧x<16)∧(∀ x∈n,0≤x∧x≤30)∧o.Nodup:=by
 unfold segB; rw [decide_eq_true_iff]
theorem segB_no {o n:List Int} (h:¬ (1≤o.length∧o.length≤16∧n.length=o.length∧(∀ x∈o,0≤x∧x<16)∧(∀ x∈n,0≤x∧x≤30)∧o.Nodup)):segB o n=false:=by
 unfold segB; rw [decide_eq_false_iff_not]; exact h
def okC (c:Chk):Bool:=decide (c.g≠0∧c.l≠0) && segB c.o c.n
theorem okC_iff (c:Chk):okC c=true↔(c.g≠0∧c.l≠0)∧segB c.o c.n=true:=by
 unfold okC; rw [Bool.and_eq_true,decide_eq_true_iff]
def pairsF (f g:Nat→Int):Nat→List UInt8
 | 0=>[]
 | k+1=>pairsF f g k++(putL (f k).toNat 1++putL (g k).toNat 1)
theorem pairsF_len (f g:Nat→Int):∀ k,(pairsF f g k).length=2*k
 | 0=>rfl
 | k+1=>by rw [pairsF,List.length_append,pairsF_len f g k,List.length_append,putL_length,putL_length]; omega
def nth (l:List Int) (i:Nat):Int:=l.getD i 0
def pairsL (o n:List Int):List UInt8:=pairsF (nth o) (nth n) o.length
def headL (c:Chk):List UInt8:=putL c.g.toNat 8++putL c.e.toNat 4++putL c.l.toNat 8++putL c.v.toNat 8++putL c.o.length 1
def fieldsL (c:Chk):List UInt8:=headL c++pairsL c.o c.n
def bodyL (c:Chk):List UInt8:=fieldsL c++List.replicate (116-(fieldsL c).length) 0
def secL (c:Chk):List UInt8:=bodyL c++putL (Crc.more 0 (bodyL c)) 4++putL c.g.toNat 8
theorem headL_len (c:Chk):(headL c).length=29:=by simp [headL,putL_length]
theorem fieldsL_len (c:Chk):(fieldsL c).length=29+2*c.o.length:=by
 rw [fieldsL,List.length_append,headL_len,pairsL,pairsF_len]
theorem okC_o {c:Chk} (h:okC c=true):1≤c.o.length∧c.o.length≤16∧c.n.length=c.o.length:=by
 obtain ⟨h1,h2,h3,_⟩:=(segB_iff _ _).1 ((okC_iff c).1 h).2
 exact ⟨h1,h2,h3⟩
theorem bodyL_len {c:Chk} (h:okC c=true):(bodyL c).length=116:=by
 have h1:=okC_o h
 rw [bodyL,List.length_append,List.length_replicate,fieldsL_len]; omega
theorem secL_len {c:Chk} (h:okC c=true):(secL c).length=128:=by
 rw [secL,List.length_append,List.length_append,bodyL_len h,putL_length,putL_length]
def cutC (s:List UInt8):Chk :=
 { g:=(getN (s.take 8):Nat),e:=(getN ((s.drop 8).take 4):Nat),l:=(getN ((s.drop 12).take 8):Nat),v:=(getN ((s.drop 20).take 8):Nat),
   o:=(List.range (byteAt s 28)).map fun i=>((byteAt s (29+2*i):Nat):Int),n:=(List.range (byteAt s 28)).map fun i=>((byteAt s (30+2*i):Nat):Int) }
theorem getN_lt_of (l:List UInt8) (k n:Nat) (h:l.length≤k) (hk:k≤8) (hn:256 ^ k=n):getN l<n:=by
 unfold getN
 rw [← hn]
 exact leN_lt_of (by rw [List.length_take]; omega)
theorem cutC_fits (s:List UInt8):Fits (cutC s):=by
 have h1:=getN_lt (s.take 8)
 have h2:=getN_lt_of ((s.drop 8).take 4) 4 4294967296 (by rw [List.length_take]; omega) (by omega) (by decide)
 have h3:=getN_lt ((s.drop 12).take 8)
 have h4:=getN_lt ((s.drop 20).take 8)
 constructor <;> simp only [cutC] <;> omega
theorem getN_putL (n k:Nat) (h:k≤8):getN (putL n k)=n%256 ^ k:=by
 unfold getN
 rw [List.take_of_length_le (by rw [putL_length]; exact h),leN_putL]
theorem take_at (p q r:List UInt8) (n m:Nat) (hp:p.length=n) (hq:q.length=m):((p++(q++r)).drop n).take m=q:=by
 rw [List.drop_append_of_le_length (by omega),List.drop_of_length_le (by omega),List.nil_append,List.take_append_of_le_length (by omega),List.take_of_length_le (by omega)]
theorem byteAt_right (p q:List UInt8) (n i:Nat) (h:p.length=n):byteAt (p++q) (n+i)=byteAt q i:=by
 unfold byteAt
 rw [List.getElem?_append_right (by omega)]
 congr 3
 omega
theorem byteAt_put1 (n:Nat) (r:List UInt8):byteAt (putL n 1++r) 0=n%256:=by
 simp [byteAt,putL]
theorem pairs_at (f g:Nat→Int):∀ (k i:Nat) (r:List UInt8),i<k→byteAt (pairsF f g k++r) (2*i)=(f i).toNat%256∧byteAt (pairsF f g k++r) (2*i+1)=(g i).toNat%256
 | 0,i,r,h=>by omega
 | k+1,i,r,h=>by
   rw [pairsF,List.append_assoc]
   by_cases e:i=k
   ·subst e
    have hl:=pairsF_len f g i
    constructor
    ·have:=byteAt_right (pairsF f g i) (putL (f i).toNat 1++putL (g i).toNat 1++r) (2*i) 0 hl
     rw [Nat.add_zero] at this
     rw [this,List.append_assoc]
     exact byteAt_put1 _ _
    ·rw [byteAt_right (pairsF f g i) (putL (f i).toNat 1++putL (g i).toNat 1++r) (2*i) 1 hl,List.append_assoc]
     have:=byteAt_right (putL (f i).toNat 1) (putL (g i).toNat 1++r) 1 0 (putL_length _ _)
     rw [Nat.add_zero] at this
     rw [this]
     exact byteAt_put1 _ _
   ·exact pairs_at f g k i _ (by omega)
theorem secL_split (c:Chk):∃ Z,secL c=putL c.g.toNat 8++(putL c.e.toNat 4++(putL c.l.toNat 8++(putL c.v.toNat 8++(putL c.o.length 1++(pairsL c.o c.n++Z))))):=by
 refine ⟨List.replicate (116-(fieldsL c).length) 0++(putL (Crc.more 0 (bodyL c)) 4++putL c.g.toNat 8),?_⟩
 have e0:secL c=fieldsL c++(List.replicate (116-(fieldsL c).length) 0++(putL (Crc.more 0 (bodyL c)) 4++putL c.g.toNat 8)):=by
  rw [secL,List.append_assoc]
  generalize putL (Crc.more 0 (bodyL c)) 4++putL c.g.toNat 8=T
  rw [bodyL,List.append_assoc]
 rw [e0]
 generalize List.replicate (116-(fieldsL c).length) 0++(putL (Crc.more 0 (bodyL c)) 4++putL c.g.toNat 8)=T
 simp only [fieldsL,headL,List.append_assoc]
structure Stands (c:Chk) (s:List UInt8):Prop where
 g:s.take 8=putL c.g.toNat 8
 e:(s.drop 8).take 4=putL c.e.toNat 4
 l:(s.drop 12).take 8=putL c.l.toNat 8
 v:(s.drop 20).take 8=putL c.v.toNat 8
 k:byteAt s 28=c.o.length%256
 p:∀ i,i<c.o.length→byteAt s (29+2*i)=(nth c.o i).toNat%256∧byteAt s (30+2*i)=(nth c.n i).toNat%256
theorem secL_stands (c:Chk):Stands c (secL c):=by
 obtain ⟨Z,e⟩:=secL_split c
 rw [e]
 refine ⟨?_,?_,?_,?_,?_,fun i hi=>?_⟩
 ·have:=take_at [] (putL c.g.toNat 8) (putL c.e.toNat 4++(putL c.l.toNat 8++(putL c.v.toNat 8++(putL c.o.length 1++(pairsL c.o c.n++Z))))) 0 8 rfl (putL_length _ _)
  simpa using this
 ·exact take_at _ _ _ _ _ (putL_length _ _) (putL_length _ _)
 ·have:=take_at (putL c.g.toNat 8++putL c.e.toNat 4) (putL c.l.toNat 8) (putL c.v.toNat 8++(putL c.o.length 1++(pairsL c.o c.n++Z))) 12 8 (by simp [putL_length]) (putL_length _ _)
  simpa [List.append_assoc] using this
 ·have:=take_at (putL c.g.toNat 8++putL c.e.toNat 4++putL c.l.toNat 8) (putL c.v.toNat 8) (putL c.o.length 1++(pairsL c.o c.n++Z)) 20 8 (by simp [putL_length]) (putL_length _ _)
  simpa [List.append_assoc] using this
 ·have:=byteAt_right (putL c.g.toNat 8++putL c.e.toNat 4++putL c.l.toNat 8++putL c.v.toNat 8) (putL c.o.length 1++(pairsL c.o c.n++Z)) 28 0 (by simp [putL_length])
  rw [byteAt_put1] at this
  simpa [List.append_assoc] using this
 ·have h:=pairs_at (nth c.o) (nth c.n) c.o.length i Z hi
  have e1:∀ j,byteAt (putL c.g.toNat 8++(putL c.e.toNat 4++(putL c.l.toNat 8++(putL c.v.toNat 8++(putL c.o.length 1++(pairsL c.o c.n++Z)))))) (29+j)=byteAt (pairsL c.o c.n++Z) j:=by
   intro j
   have:=byteAt_right (putL c.g.toNat 8++putL c.e.toNat 4++putL c.l.toNat 8++putL c.v.toNat 8++putL c.o.length 1) (pairsL c.o c.n++Z) 29 j (by simp [putL_length])
   simpa [List.append_assoc] using this
  refine ⟨?_,?_⟩
  ·rw [e1]; exact h.1
  ·rw [show 30+2*i=29+(2*i+1) by omega,e1]; exact h.2
theorem nth_mem {l:List Int} {i:Nat} (h:i<l.length):nth l i∈l:=by
 unfold nth
 rw [List.getD_eq_getElem?_getD,List.getElem?_eq_getElem h]
 exact List.getElem_mem h
theorem list_nth {l:List Int} {f:Nat→Int} (k:Nat) (hk:k=l.length) (h:∀ i,i<k→f i=nth l i):(List.range k).map f=l:=by
 subst hk
 apply List.ext_getElem
 ·simp
 ·intro i h1 h2
  rw [List.getElem_map,List.getElem_range,h i h2]
  unfold nth
  rw [List.getD_eq_getElem?_getD,List.getElem?_eq_getElem h2]
  rfl
theorem cutC_secL {c:Chk} (hf:Fits c) (h:okC c=true):cutC (secL c)=c:=by
 have S:=secL_stands c
 obtain ⟨g0,g1,e0,e1,l0,l1,v0,v1⟩:=hf
 obtain ⟨h1,h2,h3,h4,h5,h6⟩:=(segB_iff _ _).1 ((okC_iff c).1 h).2
 have g:∀ (n k:Nat),k≤8→n<256 ^ k→getN (putL n k)=n:=fun n k hk hn=>by rw [getN_putL n k hk,Nat.mod_eq_of_lt hn]
 have hk:byteAt (secL c) 28=c.o.length:=by rw [S.k]; omega
 have ho:(List.range c.o.length).map (fun i=>((byteAt (secL c) (29+2*i):Nat):Int))=c.o:=by
  refine list_nth c.o.length rfl fun i hi=>?_
  rw [(S.p i hi).1]
  have:=h4 _ (nth_mem hi)
  omega
 have hn:(List.range c.o.length).map (fun i=>((byteAt (secL c) (30+2*i):Nat):Int))=c.n:=by
  refine list_nth c.o.length h3.symm fun i hi=>?_
  rw [(S.p i hi).2]
  have:=h5 _ (nth_mem (l:=c.n) (i:=i) (by omega))
  omega
 unfold cutC
 rw [S.g,S.e,S.l,S.v,hk,ho,hn,g _ 8 (by omega) (by omega),g _ 4 (by omega) (by omega),g _ 8 (by omega) (by omega),g _ 8 (by omega) (by omega)]
 rw [Int.toNat_of_nonneg g0,Int.toNat_of_nonneg e0,Int.toNat_of_nonneg l0,Int.toNat_of_nonneg v0]
def isSec (s:List UInt8):Bool:=okC (cutC s) && decide (secL (cutC s)=s)
theorem isSec_iff (s:List UInt8):isSec s=true↔okC (cutC s)=true∧secL (cutC s)=s:=by
 unfold isSec; rw [Bool.and_eq_true,decide_eq_true_iff]
theorem isSec_secL {c:Chk} (hf:Fits c) (h:okC c=true):isSec (secL c)=true:=by
 rw [isSec_iff,cutC_secL hf h]; exact ⟨h,rfl⟩
theorem isSec_len {s:List UInt8} (h:isSec s=true):s.length=128:=by
 obtain ⟨h1,h2⟩:=(isSec_iff s).1 h
 rw [← h2]; exact secL_len h1
theorem secL_last {c:Chk} (h:okC c=true):(secL c).drop 120=putL c.g.toNat 8:=by
 unfold secL
 rw [List.drop_append_of_le_length (by rw [List.length_append,bodyL_len h,putL_length]; omega),List.drop_of_length_le (by rw [List.length_append,bodyL_len h,putL_length]; omega),List.nil_append]
theorem secL_body {c:Chk} (h:okC c=true):(secL c).take 116=bodyL c:=by
 unfold secL
 rw [List.append_assoc,List.take_append_of_le_length (by rw [bodyL_len h]; omega),List.take_of_length_le (by rw [bodyL_len h]; omega)]
theorem secL_sum {c:Chk} (h:okC c=true):((secL c).drop 116).take 4=putL (Crc.more 0 (bodyL c)) 4:=by
 unfold secL
 rw [List.append_assoc]
 exact take_at _ _ _ _ _ (bodyL_len h) (putL_length _ _)
structure Reads (s:List UInt8):Prop where
 len:s.length=128
 ends:s.drop 120=s.take 8
 sum:getN ((s.drop 116).take 4)=Crc.more 0 (s.take 116)
 cnt:byteAt s 28≤16
 zero:∀ i,29+2*byteAt s 28≤i→i<116→byteAt s i=0
 ok:okC (cutC s)=true
theorem putL_getN {l:List UInt8} {k:Nat} (hl:l.length=k) (hk:k≤8):putL (getN l) k=l:=by
 unfold getN
 rw [List.take_of_length_le (by omega),← hl,putL_leN]
theorem pairs_of (s:List UInt8):∀ k,29+2*k≤s.length→pairsF (fun i=>((byteAt s (29+2*i):Nat):Int)) (fun i=>((byteAt s (30+2*i):Nat):Int)) k=(s.drop 29).take (2*k)
 | 0,_=>rfl
 | k+1,h=>by
   have b1:∀ i,i<s.length→putL (byteAt s i) 1=[s.getD i 0]:=fun i hi=>by
    simp [putL,byteAt,List.getD_eq_getElem?_getD]
   rw [pairsF,pairs_of s k (by omega),Int.toNat_natCast,Int.toNat_natCast,b1 _ (by omega),b1 _ (by omega),show 2*(k+1)=2*k+1+1 by omega,
    List.take_succ_eq_append_getElem (i:=2*k+1) (by rw [List.length_drop]; omega),List.take_succ_eq_append_getElem (i:=2*k) (by rw [List.length_drop]; omega),List.append_assoc]
   congr 1
   simp only [List.getElem_drop,List.cons_append,List.nil_append,List.getD_eq_getElem?_getD]
   rw [List.getElem?_eq_getElem (by omega),List.getElem?_eq_getElem (by omega)]
   simp only [Option.getD_some]
   congr 2
   simp only [show 30+2*k=29+(2*k+1) by omega]
theorem nth_map {f:Nat→Int} {k i:Nat} (h:i<k):nth ((List.range k).map f) i=f i:=by
 unfold nth
 simp [h]
theorem pairsF_congr {f g f' g' : Nat→Int}:∀ k,(∀ i,i<k→f i=f' i)→(∀ i,i<k→g i=g' i)→pairsF f g k=pairsF f' g' k
 | 0,_,_=>rfl
 | k+1,h,h'=>by rw [pairsF,pairsF,pairsF_congr k (fun i hi=>h i (by omega)) (fun i hi=>h' i (by omega)),h k (by omega),h' k (by omega)]
theorem zeros_of {s:List UInt8} (h:∀ i,i<s.length→byteAt s i=0):s=List.replicate s.length 0:=by
 apply List.ext_getElem
 ·simp
 ·intro i h1 h2
  have:=h i h1
  unfold byteAt at this
  rw [List.getElem?_eq_getElem h1] at this
  rw [List.getElem_replicate]
  exact UInt8.toNat_inj.1 (by simpa using this)
theorem byteAt_drop (s:List UInt8) (n i:Nat):byteAt (s.drop n) i=byteAt s (n+i):=by
 unfold byteAt; rw [List.getElem?_drop]
theorem byteAt_take (s:List UInt8) (n i:Nat) (h:i<n):byteAt (s.take n) i=byteAt s i:=by
 unfold byteAt; rw [List.getElem?_take_of_lt h]
theorem cut_o_len (s:List UInt8):(cutC s).o.length=byteAt s 28:=by simp [cutC]
theorem reads_body {s:List UInt8} (h:Reads s):bodyL (cutC s)=s.take 116:=by
 obtain ⟨hl,_,_,hc,hz,_⟩:=h
 have e:fieldsL (cutC s)=s.take (29+2*byteAt s 28):=by
  unfold fieldsL headL
  rw [cut_o_len]
  have p1:pairsL (cutC s).o (cutC s).n=(s.drop 29).take (2*byteAt s 28):=by
   unfold pairsL
   rw [cut_o_len,← pairs_of s (byteAt s 28) (by omega)]
   exact pairsF_congr _ (fun i hi=>nth_map hi) (fun i hi=>nth_map hi)
  rw [p1]
  simp only [cutC,Int.toNat_natCast]
  rw [putL_getN (by rw [List.length_take]; omega) (by omega),putL_getN (by rw [List.length_take,List.length_drop]; omega) (by omega),putL_getN (by rw [List.length_take,List.length_drop]; omega) (by omega),putL_getN (by rw [List.length_take,List.length_drop]; omega) (by omega)]
  have p2:putL (byteAt s 28) 1=(s.drop 28).take 1:=by
   have:getN ((s.drop 28).take 1)=byteAt s 28:=by
    rw [getN_eq]
    have:∀ i,0<i→byteAt ((s.drop 28).take 1) i=0:=fun i hi=>by
     unfold byteAt
     rw [List.getElem?_eq_none (by rw [List.length_take]; omega)]
     rfl
    rw [this 1 (by omega),this 2 (by omega),this 3 (by omega),this 4 (by omega),this 5 (by omega),this 6 (by omega),this 7 (by omega),byteAt_take _ _ _ (by omega),byteAt_drop,Nat.add_zero]
   rw [← this]
   exact putL_getN (by rw [List.length_take,List.length_drop]; omega) (by omega)
  rw [p2]
  have tk:∀ a b,s.take a++(s.drop a).take b=s.take (a+b):=fun a b=>by rw [List.take_add]
  rw [tk,tk,tk,tk,tk]
 unfold bodyL
 rw [e]
 have hlen:(s.take (29+2*byteAt s 28)).length=29+2*byteAt s 28:=by rw [List.length_take]; omega
 rw [hlen]
 have e2:(s.drop (29+2*byteAt s 28)).take (116-(29+2*byteAt s 28))=List.replicate (116-(29+2*byteAt s 28)) 0:=by
  have hl2:((s.drop (29+2*byteAt s 28)).take (116-(29+2*byteAt s 28))).length=116-(29+2*byteAt s 28):=by rw [List.length_take,List.length_drop]; omega
  have:=zeros_of (s:=(s.drop (29+2*byteAt s 28)).take (116-(29+2*byteAt s 28))) (fun i hi=>by
   rw [hl2] at hi
   rw [byteAt_take _ _ _ hi,byteAt_drop]
   exact hz _ (by omega) (by omega))
  rw [hl2] at this
  exact this
 rw [← e2,← List.take_add]
 congr 1
 omega
theorem reads_sec {s:List UInt8} (h:Reads s):isSec s=true:=by
 rw [isSec_iff]
 refine ⟨h.ok,?_⟩
 unfold secL
 rw [reads_body h,← h.sum]
 have hl:=h.len
 rw [putL_getN (by rw [List.length_take,List.length_drop]; omega) (by omega)]
 simp only [cutC,Int.toNat_natCast]
 rw [putL_getN (by rw [List.length_take]; omega) (by omega),← h.ends]
 have tk:∀ a b,s.take a++(s.drop a).take b=s.take (a+b):=fun a b=>by rw [List.take_add]
 rw [tk,List.take_append_drop]
theorem sec_reads {s:List UInt8} (h:isSec s=true):Reads s:=by
 obtain ⟨h1,h2⟩:=(isSec_iff s).1 h
 have hl:=isSec_len h
 have hf:=cutC_fits s
 have S:=secL_stands (cutC s)
 rw [h2] at S
 have hb:=secL_body h1
 rw [h2] at hb
 have ho:=okC_o h1
 rw [cut_o_len] at ho
 refine ⟨hl,?_,?_,ho.2.1,fun i h3 h4=>?_,h1⟩
 ·have:=secL_last h1
  rw [h2] at this
  rw [this,S.g]
 ·have:=secL_sum h1
  rw [h2] at this
  rw [this,hb,getN_putL _ 4 (by omega)]
  exact Nat.mod_eq_of_lt (Crc.more_lt _ (by omega))
 ·rw [← byteAt_take s 116 i h4,hb]
  unfold bodyL
  have hfl:(fieldsL (cutC s)).length=29+2*byteAt s 28:=by rw [fieldsL_len,cut_o_len]
  obtain ⟨j,rfl⟩:∃ j,i=29+2*byteAt s 28+j:=⟨i-(29+2*byteAt s 28),by omega⟩
  rw [byteAt_right _ _ _ _ hfl]
  unfold byteAt
  rw [List.getElem?_replicate]
  split <;> rfl
def zeroC:Chk:=⟨0,0,0,0,[],[]⟩
def decC (s:List UInt8):Chk:=if isSec s=true then cutC s else zeroC
def decE (s:List UInt8):Int:=if isSec s=true then 0 else 5
theorem dec_yes {s:List UInt8} (h:isSec s=true):decC s=cutC s∧decE s=0:=by unfold decC decE; rw [if_pos h,if_pos h]; exact ⟨rfl,rfl⟩
theorem dec_no {s:List UInt8} (h:isSec s=false):decC s=zeroC∧decE s=5:=by unfold decC decE; rw [if_neg (by rw [h]; decide),if_neg (by rw [h]; decide)]; exact ⟨rfl,rfl⟩
def bestI (s t:List UInt8):Nat:=if (decC t).g > (decC s).g then 1 else 0
def bestC (s t:List UInt8):Chk:=if (decC t).g > (decC s).g then decC t else decC s
def bestE (s t:List UInt8):Int:=if isSec s=false∧isSec t=false then 5 else 0
open Go.RowKit Go.Lib Wd Cr
set_option linter.unusedVariables false
theorem bcell {W w1:World} (hb:Below W.heap.size W w1):(∀ b o,b<W.heap.size→w1.cell? ⟨b,o,none⟩=W.cell? ⟨b,o,none⟩)∧(∀ b o,b<W.heap.size→w1.frozen? ⟨b,o,none⟩=W.frozen? ⟨b,o,none⟩) :=
 ⟨fun b o h=>hb.cell (p:=⟨b,o,none⟩) h,fun b o h=>hb.frozen (p:=⟨b,o,none⟩) h⟩
theorem below1 (w:World) (o:Obj):Below w.heap.size w (w.alloc o):=(Below.refl _ _).alloc (Nat.le_refl _) _
theorem ret_bool {a b:Bool} (h:a=b):Ending.returned (.bool a)=.returned (.bool b):=by rw [h]
theorem need_yes (w:World):Calls Tryz.prog 204 #[.bool true] w fun e w'=>e=.returned (.tuple #[])∧w=w':=by
 go_enter Tryz.func204,Tryz.ntmps204
 go_wp2_with fail
 go_end0
 exact ⟨rfl,rfl⟩
def bad:List PanicEntry:=[{ v:=.iface 49 (.int .i64 5),recovered:=false }]
theorem need_no (w:World):Calls Tryz.prog 204 #[.bool false] w fun e w'=>e=.panicked bad∧w=w':=by
 go_enter Tryz.func204,Tryz.ntmps204
 go_wp2_with fail
 exact ⟨rfl,rfl,rfl⟩
structure Sl (W:World) (A:Option Addr) (m:Nat) (l:List Int):Prop where
 len:m=l.length
 cells:CellsIn W A m (fun j=>.int .i64 (nth l j))
theorem Sl.later {W W' : World} {A:Option Addr} {m:Nat} {l:List Int} (h:Sl W A m l) (hb:Below W.heap.size W W'):Sl W' A m l:=⟨h.len,h.cells.later hb⟩
theorem Sl.nil (W:World):Sl W none 0 []:=⟨rfl,fun h=>absurd h (by omega)⟩
structure Good (o n:List Int) (i:Nat):Prop where
 po:∀ x∈o.take i,0≤x∧x<16
 pn:∀ x∈n.take i,0≤x∧x≤30
 pd:(o.take i).Nodup
theorem take_nth {l:List Int} {i:Nat} (h:i<l.length):l.take (i+1)=l.take i++[nth l i]:=by
 rw [List.take_succ_eq_append_getElem h]
 unfold nth
 rw [List.getD_eq_getElem?_getD,List.getElem?_eq_getElem h]
 rfl
theorem Good.next {o n:List Int} {i:Nat} (h:Good o n i) (ho:i<o.length) (hn:i<n.length) (h1:0≤nth o i∧nth o i<16) (h2:0≤nth n i∧nth n i≤30) (h3:nth o i ∉ o.take i):Good o n (i+1):=by
 refine ⟨?_,?_,?_⟩
 ·intro x hx
  rw [take_nth ho,List.mem_append,List.mem_singleton] at hx
  rcases hx with hx|rfl
  ·exact h.po x hx
  ·exact h1
 ·intro x hx
  rw [take_nth hn,List.mem_append,List.mem_singleton] at hx
  rcases hx with hx|rfl
  ·exact h.pn x hx
  ·exact h2
 ·rw [take_nth ho,List.nodup_append]
  refine ⟨h.pd,by simp,?_⟩
  intro a ha b hb
  rw [List.mem_singleton] at hb
  subst hb
  intro e
  subst e
  exact h3 ha
theorem not_nodup {o:List Int} {i:Nat} (ho:i<o.length) (h:nth o i∈o.take i):¬ o.Nodup:=by
 intro hd
 have h2:(o.take (i+1)).Nodup:=hd.sublist (List.take_sublist _ _)
 rw [take_nth ho,List.nodup_append] at h2
 exact h2.2.2 _ h _ (by simp) rfl
structure Used (w wr:World) (o n:List Int) (i:Nat):Prop where
 b:Below w.heap.size w wr
 lt:w.heap.size<wr.heap.size
 c:∀ j,j<16→wr.cell? ⟨w.heap.size,j,none⟩=some (.bool (decide ((j:Int)∈o.take i)))
 f:∀ j,j<16→wr.frozen? ⟨w.heap.size,j,none⟩=false
 good:Good o n i
theorem Used.next {w wr:World} {o n:List Int} {i j:Nat} (h:Used w wr o n i) (ho:i<o.length) (hn:i<n.length) (hj:j<16) (e:nth o i=(j:Int)) (h2:0≤nth n i∧nth n i≤30) (h3:(j:Int) ∉ o.take i) :
 Used w (wr.setCell ⟨w.heap.size,j,none⟩ (.bool true)) o n (i+1):=by
 refine ⟨h.b.setCell (Nat.le_refl _) _,by simpa using h.lt,fun i' hi'=>?_,fun i' hi'=>?_,h.good.next ho hn (by omega) h2 (by rw [e]; exact h3)⟩
 ·by_cases hij:i' = j
  ·subst hij
   rw [World.cell?_setCell_same _ _ _ (h.c _ hi')]
   rw [take_nth ho,e]
   simp
  ·rw [World.cell?_setCell_other _ _ _ _ (by intro hh; injection hh with _ hh; omega),h.c _ hi',take_nth ho,e]
   simp
   intro hh
   omega
 ·rw [World.frozen?_setCell]; exact h.f _ hi'
theorem used0 (w:World) (o n:List Int) (t:TypeId):Used w (w.alloc (.cells #[.bool false,.bool false,.bool false,.bool false,.bool false,.bool false,.bool false,.bool false,.bool false,.bool false,.bool false,.bool false,.bool false,.bool false,.bool false,.bool false] t)) o n 0:=by
 refine ⟨below1 _ _,by simp,fun j hj=>?_,fun j hj=>by simp [go_sem],⟨by simp,by simp,by simp⟩⟩
 rcases (by omega:j=0∨j=1∨j=2∨j=3∨j=4∨j=5∨j=6∨j=7∨j=8∨j=9∨j=10∨j=11∨j=12∨j=13∨j=14∨j=15) with rfl|rfl|rfl|rfl|rfl|rfl|rfl|rfl|rfl|rfl|rfl|rfl|rfl|rfl|rfl|rfl <;> simp [go_sem]
theorem seg_len (A:Option Addr) (m p:Nat) (B:Option Addr) (k q:Nat) (w:World) (hm:m≤maxLen) (h:m<1∨16<m∨(1≤m∧m≤16∧k≠m)) :
 Calls Tryz.prog 210 #[.slice A m p,.slice B k q] w fun e w'=>e=.returned (.bool false)∧Below w.heap.size w w':=by
 rcases h with h|h | ⟨h1,h2,h3⟩
 ·obtain rfl:m=0:=by omega
  go_enter Tryz.func210,Tryz.ntmps210
  go_wp2_with fail
  go_ret
  exact ⟨rfl,Below.refl _ _⟩
 ·have h' : (16:Int)<(m:Int):=by omega
  have h'' : ¬ (m:Int)<1:=by omega
  go_enter Tryz.func210,Tryz.ntmps210
  go_wp2_with fail
  go_ret
  exact ⟨rfl,Below.refl _ _⟩
 ·have h' : ¬ (16:Int)<(m:Int):=by omega
  have h'' : ¬ (m:Int)<1:=by omega
  have h4:((k:Int) != (m:Int))=true:=by simp; omega
  go_enter Tryz.func210,Tryz.ntmps210
  go_wp2_with fail
  go_ret
  exact ⟨rfl,Below.refl _ _⟩
set_option maxRecDepth 100000 in
set_option maxHeartbeats 4000000 in
theorem seg_main (ba oa:Nat) (m p:Nat) (bb ob:Nat) (q:Nat) (o n:List Int) (w:World) (hm1:1≤m) (hm2:m≤16) (ho:Hid (m=o.length)) (hn:Hid (m=n.length)) (hba:ba<w.heap.size) (hbb:bb<w.heap.size)
 (CA:Hid (∀ j,j<m→w.cell? ⟨ba,oa+j,none⟩=some (.int .i64 (nth o j)))) (CB:Hid (∀ j,j<m→w.cell? ⟨bb,ob+j,none⟩=some (.int .i64 (nth n j)))) :
 Calls Tryz.prog 210 #[.slice (some ⟨ba,oa,none⟩) m p,.slice (some ⟨bb,ob,none⟩) m q] w fun e w'=>e=.returned (.bool (segB o n))∧Below w.heap.size w w':=by
 have h' : ¬ (16:Int)<(m:Int):=by omega
 have h'' : ¬ (m:Int)<1:=by omega
 have h4:((m:Int) != (m:Int))=false:=by simp
 have U0:=Lib.hid (used0 w o n 296)
 go_enter Tryz.func210,Tryz.ntmps210
 go_wp2_with fail
 go_loopg [25] 16 (fun gk s25 wr=>∃ i:Nat,i≤m∧gk=16-i∧s25=.int .i64 i∧Hid (Used w wr o n i))
 case atStart=>exact ⟨0,by omega,rfl,rfl,U0⟩
 case round =>
  obtain ⟨i,hi,hgk,rfl,U⟩:=hrel
  have HG:=Lib.hid hgk
  clear hgk
  by_cases hlt:i<m
  ·have hlti:(i:Int)<(m:Int):=by omega
   have ha:=((bcell U.out.b).1 ba (oa+i) hba).trans (CA.out i hlt)
   have hb:=((bcell U.out.b).1 bb (ob+i) hbb).trans (CB.out i hlt)
   have hoi:i<o.length:=by have:=ho.out; omega
   have hni:i<n.length:=by have:=hn.out; omega
   obtain ⟨x,X⟩:∃ x,Hid (nth o i=x):=⟨_,rfl⟩
   obtain ⟨y,Y⟩:∃ y,Hid (nth n i=y):=⟨_,rfl⟩
   rw [X.out] at ha
   rw [Y.out] at hb
   have bad0:(x<0∨16≤x)→segB o n=false:=fun hx=>segB_no (fun hs=>by
    have:=hs.2.2.2.1 _ (nth_mem hoi)
    rw [X.out] at this
    omega)
   have bad1:(y<0∨30<y)→segB o n=false:=fun hx=>segB_no (fun hs=>by
    have:=hs.2.2.2.2.1 _ (nth_mem hni)
    rw [Y.out] at this
    omega)
   have bad2:x∈o.take i→segB o n=false:=fun hx=>segB_no (fun hs=>not_nodup hoi (by rw [X.out]; exact hx) hs.2.2.2.2.2)
   have B0:=Lib.hid bad0
   have B1:=Lib.hid bad1
   have B2:=Lib.hid bad2
   clear bad0 bad1 bad2
   by_cases hx0:x<0
   ·go_wp2_with fail
    go_ret
    exact ⟨ret_bool (B0.out (.inl hx0)).symm,U.out.b⟩
   by_cases hx1:16≤x
   ·go_wp2_with fail
    go_ret
    exact ⟨ret_bool (B0.out (.inr hx1)).symm,U.out.b⟩
   obtain ⟨j,rfl⟩:=Int.eq_ofNat_of_zero_le (by omega:0≤x)
   have hj:j<16:=by omega
   have hji:(j:Int)<16:=by omega
   have hu:=U.out.c j hj
   have hf:=U.out.f j hj
   clear hx0 hx1
   cases hd:decide ((j:Int)∈o.take i)
   case true =>
    rw [hd] at hu
    go_wp2_with fail
    go_ret
    exact ⟨ret_bool (B2.out (of_decide_eq_true hd)).symm,U.out.b⟩
   case false =>
    rw [hd] at hu
    have HD:=Lib.hid (of_decide_eq_false hd)
    clear hd
    by_cases hy0:y<0
    ·go_wp2_with fail
     go_ret
     exact ⟨ret_bool (B1.out (.inl hy0)).symm,U.out.b⟩
    by_cases hy1:30<y
    ·go_wp2_with fail
     go_ret
     exact ⟨ret_bool (B1.out (.inr hy1)).symm,U.out.b⟩
    go_wp2_with fail
    go_roundg (16-(i+1))
    case measure=>have:=HG.out; omega
    case rel=>exact ⟨i+1,by omega,rfl,by go_num,Lib.hid (U.out.next hoi hni hj X.out (by rw [Y.out]; omega) HD.out)⟩
  ·obtain rfl:i=m:=by omega
   have hlti:¬ (i:Int)<(i:Int):=by omega
   go_wp2_with fail
   go_ret
   refine ⟨ret_bool ?_,U.out.b⟩
   symm
   have h1:=ho.out
   have h2:=hn.out
   have g:=U.out.good
   rw [segB_iff]
   refine ⟨by omega,by omega,by omega,?_,?_,?_⟩
   ·intro x hx; exact g.po x (by rw [List.take_of_length_le (by omega)]; exact hx)
   ·intro x hx; exact g.pn x (by rw [List.take_of_length_le (by omega)]; exact hx)
   ·have:=g.pd; rw [List.take_of_length_le (by omega)] at this; exact this
theorem seg_any (A:Option Addr) (m p:Nat) (B:Option Addr) (k q:Nat) (o n:List Int) (w:World) (hA:Sl w A m o) (hB:Sl w B k n) (hm:m≤maxLen) :
 Calls Tryz.prog 210 #[.slice A m p,.slice B k q] w fun e w'=>e=.returned (.bool (segB o n))∧Below w.heap.size w w':=by
 by_cases h:1≤m∧m≤16∧k=m
 ·obtain ⟨h1,h2,rfl⟩:=h
  obtain ⟨ba,oa,rfl,hba,ca⟩:=hA.cells (by omega)
  obtain ⟨bb,ob,rfl,hbb,cb⟩:=hB.cells (by omega)
  exact seg_main ba oa k p bb ob q o n w h1 h2 (Lib.hid hA.len) (Lib.hid hB.len) hba hbb (Lib.hid ca) (Lib.hid cb)
 ·have:=hA.len
  have:=hB.len
  rw [segB_no (fun hs=>h (by omega))]
  exact seg_len A m p B k q w hm (by omega)
theorem right_zero (g e l v:Int) (A:Option Addr) (m p:Nat) (B:Option Addr) (k q:Nat) (w:World) (h:g=0∨(0<g∧l=0)) :
 Calls Tryz.prog 196 #[.agg #[.int .u64 g,.int .u32 e,.int .u64 l,.int .u64 v,.slice A m p,.slice B k q]] w fun e' w'=>e' = .returned (.bool false)∧Below w.heap.size w w':=by
 rcases h with rfl | ⟨h,rfl⟩
 all_goals
  go_enter Tryz.func196,Tryz.ntmps196
  go_wp2_with fail
  go_ret
  exact ⟨rfl,(Below.refl _ _).alloc (Nat.le_refl _) _⟩
set_option maxHeartbeats 1000000 in
theorem right_is (g e l v:Int) (A:Option Addr) (m p:Nat) (B:Option Addr) (k q:Nat) (o n:List Int) (b:Bool) (w:World) (hA:Sl w A m o) (hB:Sl w B k n) (hm:m≤maxLen) (hg:0≤g) (hl:0≤l) (hb:okC ⟨g,e,l,v,o,n⟩=b) :
 Calls Tryz.prog 196 #[.agg #[.int .u64 g,.int .u32 e,.int .u64 l,.int .u64 v,.slice A m p,.slice B k q]] w fun e' w'=>e' = .returned (.bool b)∧Below w.heap.size w w':=by
 subst hb
 by_cases h:g=0∨l=0
 ·have he:okC ⟨g,e,l,v,o,n⟩=false:=by
   unfold okC
   rw [Bool.and_eq_false_iff,decide_eq_false_iff_not]
   left; simp only; omega
  rw [he]
  exact right_zero g e l v A m p B k q w (by omega)
 ·have he:okC ⟨g,e,l,v,o,n⟩=segB o n:=by
   unfold okC
   rw [decide_eq_true (by simp only; omega),Bool.true_and]
  rw [he]
  have C:=Lib.hid (seg_any A m p B k q o n (w.alloc (.cells #[.int .u64 g,.int .u32 e,.int .u64 l,.int .u64 v,.slice A m p,.slice B k q] 42)) (hA.later (below1 _ _)) (hB.later (below1 _ _)) hm)
  have hg:0<g:=by omega
  have hl:0<l:=by omega
  generalize segB o n=b at *
  clear h he
  go_enter Tryz.func196,Tryz.ntmps196
  go_wp2_with fail
  refine C.out.mono ?_
  rintro e' w' ⟨rfl,hb⟩
  go_wp2_with fail
  go_ret
  exact ⟨rfl,Wd.Ge.trans (below1 _ _) hb⟩
open Go.RowKit Go.Lib Wd Cr
set_option linter.unusedVariables false
structure LiesC (W:World) (bk:Nat) (g e l v:Int) (A:Option Addr) (m p:Nat) (B:Option Addr) (k q:Nat):Prop where
 lt:bk<W.heap.size
 c0:W.cell? ⟨bk,0,none⟩=some (.int .u64 g)
 c1:W.cell? ⟨bk,1,none⟩=some (.int .u32 e)
 c2:W.cell? ⟨bk,2,none⟩=some (.int .u64 l)
 c3:W.cell? ⟨bk,3,none⟩=some (.int .u64 v)
 c4:W.cell? ⟨bk,4,none⟩=some (.slice A m p)
 c5:W.cell? ⟨bk,5,none⟩=some (.slice B k q)
theorem LiesC.later {W w:World} {bk:Nat} {g e l v:Int} {A:Option Addr} {m p:Nat} {B:Option Addr} {k q:Nat} (h:LiesC W bk g e l v A m p B k q) (hb:Below W.heap.size W w):LiesC w bk g e l v A m p B k q :=
 have e:=(bcell hb).1
 ⟨Nat.lt_of_lt_of_le h.lt hb.size,(e _ _ h.lt).trans h.c0,(e _ _ h.lt).trans h.c1,(e _ _ h.lt).trans h.c2,(e _ _ h.lt).trans h.c3,(e _ _ h.lt).trans h.c4,(e _ _ h.lt).trans h.c5⟩
theorem layC (g e l v:Int) (A:Option Addr) (m p:Nat) (B:Option Addr) (k q:Nat) (t:TypeId) (w:World):LiesC (w.alloc (.cells #[.int .u64 g,.int .u32 e,.int .u64 l,.int .u64 v,.slice A m p,.slice B k q] t)) w.heap.size g e l v A m p B k q:=by
 refine ⟨by simp,?_,?_,?_,?_,?_,?_⟩ <;> simp [World.cell?_alloc_at]
structure InvC (w:World) (bk:Nat) (g e l v:Int) (A:Option Addr) (m p:Nat) (B:Option Addr) (k q:Nat) (o n:List Int) (W:World):Prop where
 b:Below w.heap.size w W
 L:LiesC W bk g e l v A m p B k q
 sa:Sl W A m o
 sb:Sl W B k n
theorem InvC.later {w W W' : World} {bk:Nat} {g e l v:Int} {A:Option Addr} {m p:Nat} {B:Option Addr} {k q:Nat} {o n:List Int} (h:InvC w bk g e l v A m p B k q o n W) (hb:Below W.heap.size W W'):InvC w bk g e l v A m p B k q o n W' :=
 ⟨Wd.Ge.trans h.b hb,h.L.later hb,h.sa.later hb,h.sb.later hb⟩
theorem below_drawn (W:World):Below W.heap.size W { W with drawn:=W.drawn+1 } :=
 let h:=Below.refl W.heap.size W
 ⟨h.os,h.tape,h.output,h.size,h.block⟩
theorem InvC.drawn {w W:World} {bk:Nat} {g e l v:Int} {A:Option Addr} {m p:Nat} {B:Option Addr} {k q:Nat} {o n:List Int} (h:InvC w bk g e l v A m p B k q o n W):InvC w bk g e l v A m p B k q o n { W with drawn:=W.drawn+1 }:=h.later (below_drawn W)
theorem inv_ge {w W:World} {bk:Nat} {g e l v:Int} {A:Option Addr} {m p:Nat} {B:Option Addr} {k q:Nat} {o n:List Int} {P:Program} {f:FuncId} {args:Array Value} {x:Value} (h:InvC w bk g e l v A m p B k q o n W) (c:Calls P f args W fun e' w'=>e' = .returned x∧Below W.heap.size W w') :
 Calls P f args W fun e' w'=>e' = .returned x∧InvC w bk g e l v A m p B k q o n w' :=
 c.mono fun _ _ ⟨he,hb⟩=>⟨he,h.later hb⟩
theorem inv0 (g e l v:Int) (A:Option Addr) (m p:Nat) (B:Option Addr) (k q:Nat) {o n:List Int} (t:TypeId) (w:World) (hA:Sl w A m o) (hB:Sl w B k n):InvC w w.heap.size g e l v A m p B k q o n (w.alloc (.cells #[.int .u64 g,.int .u32 e,.int .u64 l,.int .u64 v,.slice A m p,.slice B k q] t)) :=
 ⟨below1 _ _,layC g e l v A m p B k q t w,hA.later (below1 _ _),hB.later (below1 _ _)⟩
theorem app_is {S T U:ByteArray} (h:S.data.toList++T.data.toList=U.data.toList):S++T=U:=by
 apply ByteArray.ext
 rw [ByteArray.data_append]
 apply Array.toList_inj.1
 rw [Array.toList_append]; exact h
theorem rep0 (c:Nat):repeatL [(0:UInt8)] c=List.replicate c 0:=by
 induction c with
 | zero=>rfl
 | succ c ih=>rw [repeatL,ih,List.replicate_succ]; rfl
set_option maxHeartbeats 4000000 in
set_option maxRecDepth 100000 in
theorem body_any (g e l v:Int) (A:Option Addr) (m p:Nat) (B:Option Addr) (k q:Nat) (o n:List Int) (S:ByteArray) (w:World) (hA:Sl w A m o) (hB:Sl w B k n) (hf:Fits ⟨g,e,l,v,o,n⟩) (h:okC ⟨g,e,l,v,o,n⟩=true) (hS:bodyL ⟨g,e,l,v,o,n⟩=S.data.toList) :
 Calls Tryz.prog 197 #[.agg #[.int .u64 g,.int .u32 e,.int .u64 l,.int .u64 v,.slice A m p,.slice B k q]] w fun e' w'=>e' = .returned (.string S)∧Below w.heap.size w w':=by
 have h0:=inv0 g e l v A m p B k q 42 w hA hB
 obtain ⟨ho1,ho2,ho3⟩:=okC_o h
 have hseg:=(segB_iff _ _).1 ((okC_iff _).1 h).2
 have hlen:=fieldsL_len ⟨g,e,l,v,o,n⟩
 simp only at ho1 ho2 ho3 hlen hseg
 obtain ⟨g0,g1,e0,e1,l0,l1,v0,v1⟩:=hf
 simp only at g0 g1 e0 e1 l0 l1 v0 v1
 have hmo:=hA.len
 have hkn:=hB.len
 have hm1:1≤m:=by omega
 have hm2:m≤16:=by omega
 have hkm:k=m:=by omega
 obtain ⟨ba,oa,rfl,hba,ca⟩:=hA.cells (by omega)
 obtain ⟨bb,ob,rfl,hbb,cb⟩:=hB.cells (by omega)
 subst hkm
 have CA:=Lib.hid ca
 have CB:=Lib.hid cb
 have HO:=Lib.hid hmo
 have HN:=Lib.hid hkn
 have SG:=Lib.hid hseg
 clear ca cb hseg
 obtain ⟨T1,H1⟩:∃ T:ByteArray,Hid ((⟨(putL g.toNat (clampN 8)).toArray⟩:ByteArray)=T):=⟨_,rfl⟩
 obtain ⟨T2,H2⟩:∃ T:ByteArray,Hid ((⟨(putL e.toNat (clampN 4)).toArray⟩:ByteArray)=T):=⟨_,rfl⟩
 obtain ⟨T3,H3⟩:∃ T:ByteArray,Hid ((⟨(putL l.toNat (clampN 8)).toArray⟩:ByteArray)=T):=⟨_,rfl⟩
 obtain ⟨T4,H4⟩:∃ T:ByteArray,Hid ((⟨(putL v.toNat (clampN 8)).toArray⟩:ByteArray)=T):=⟨_,rfl⟩
 obtain ⟨T5,H5⟩:∃ T:ByteArray,Hid ((⟨(putL ((k:Int)).toNat (clampN 1)).toArray⟩:ByteArray)=T):=⟨_,rfl⟩
 have z1:T1.size=8:=by rw [← H1.out]; exact put_size _ _
 have z2:T2.size=4:=by rw [← H2.out]; exact put_size _ _
 have z3:T3.size=8:=by rw [← H3.out]; exact put_size _ _
 have z4:T4.size=8:=by rw [← H4.out]; exact put_size _ _
 have z5:T5.size=1:=by rw [← H5.out]; exact put_size _ _
 obtain ⟨U1,J1⟩:∃ U,T1++T2=U:=⟨_,rfl⟩
 obtain ⟨U2,J2⟩:∃ U,U1++T3=U:=⟨_,rfl⟩
 obtain ⟨U3,J3⟩:∃ U,U2++T4=U:=⟨_,rfl⟩
 obtain ⟨U4,J4⟩:∃ U,U3++T5=U:=⟨_,rfl⟩
 have y1:U1.size=12:=by rw [← J1,ByteArray.size_append]; omega
 have y2:U2.size=20:=by rw [← J2,ByteArray.size_append]; omega
 have y3:U3.size=28:=by rw [← J3,ByteArray.size_append]; omega
 have y4:U4.size=29:=by rw [← J4,ByteArray.size_append]; omega
 have q1:¬ 9223372036854775807<T1.size+T2.size:=by omega
 have q2:¬ 9223372036854775807<U1.size+T3.size:=by omega
 have q3:¬ 9223372036854775807<U2.size+T4.size:=by omega
 have q4:¬ 9223372036854775807<U3.size+T5.size:=by omega
 have E4:Hid (U4.data.toList=headL ⟨g,e,l,v,o,n⟩):=by
  refine Lib.hid ?_
  rw [← J4,← J3,← J2,← J1]
  simp only [ByteArray.data_append,Array.toList_append,← H1.out,← H2.out,← H3.out,← H4.out,← H5.out,headL,← hmo]
  rfl
 have ib:(k:Int)<256:=by omega
 have hkk:(k:Int)≤16:=by omega
 clear z1 z2 z3 z4 z5 y1 y2 y3 y4 ho1 ho2 ho3 h hmo hkn
 go_enter Tryz.func197,Tryz.ntmps197
 go_wp2_with fail
 have hne:Nonempty (In (InvC w w.heap.size g e l v (some ⟨ba,oa,none⟩) k p (some ⟨bb,ob,none⟩) k q o n)):=⟨⟨_,h0⟩⟩
 have F0:∀ j:In (InvC w w.heap.size g e l v (some ⟨ba,oa,none⟩) k p (some ⟨bb,ob,none⟩) k q o n),j.W.cell? ⟨w.heap.size,0,none⟩=some (.int .u64 g):=fun j=>j.h.L.c0
 have F1:∀ j:In (InvC w w.heap.size g e l v (some ⟨ba,oa,none⟩) k p (some ⟨bb,ob,none⟩) k q o n),j.W.cell? ⟨w.heap.size,1,none⟩=some (.int .u32 e):=fun j=>j.h.L.c1
 have F2:∀ j:In (InvC w w.heap.size g e l v (some ⟨ba,oa,none⟩) k p (some ⟨bb,ob,none⟩) k q o n),j.W.cell? ⟨w.heap.size,2,none⟩=some (.int .u64 l):=fun j=>j.h.L.c2
 have F3:∀ j:In (InvC w w.heap.size g e l v (some ⟨ba,oa,none⟩) k p (some ⟨bb,ob,none⟩) k q o n),j.W.cell? ⟨w.heap.size,3,none⟩=some (.int .u64 v):=fun j=>j.h.L.c3
 have F4:∀ j:In (InvC w w.heap.size g e l v (some ⟨ba,oa,none⟩) k p (some ⟨bb,ob,none⟩) k q o n),j.W.cell? ⟨w.heap.size,4,none⟩=some (.slice (some ⟨ba,oa,none⟩) k p):=fun j=>j.h.L.c4
 have F5:∀ j:In (InvC w w.heap.size g e l v (some ⟨ba,oa,none⟩) k p (some ⟨bb,ob,none⟩) k q o n),j.W.cell? ⟨w.heap.size,5,none⟩=some (.slice (some ⟨bb,ob,none⟩) k q):=fun j=>j.h.L.c5
 refine region_class (InvC w w.heap.size g e l v (some ⟨ba,oa,none⟩) k p (some ⟨bb,ob,none⟩) k q o n) (by kernel_rfl) (by kernel_rfl) h0.drawn ?_
 repeat (go_big_quiet_step (first
  | (go_at_call 193; with_reducible exact class_call _ (fun hi=>inv_ge hi (put_at g 8 T1 _ g0 g1 H1.out)))
  | (go_at_call 193; with_reducible exact class_call _ (fun hi=>inv_ge hi (put_at e 4 T2 _ e0 (by omega) H2.out)))
  | (go_at_call 193; with_reducible exact class_call _ (fun hi=>inv_ge hi (put_at l 8 T3 _ l0 l1 H3.out)))
  | (go_at_call 193; with_reducible exact class_call _ (fun hi=>inv_ge hi (put_at v 8 T4 _ v0 v1 H4.out)))
  | (go_at_call 193; with_reducible exact class_call _ (fun hi=>inv_ge hi (put_at (k:Int) 1 T5 _ (by omega) (by omega) H5.out)))))
 refine wpQuiet_nil ?_
 rintro _ ⟨j0,rfl⟩
 go_wp2_with fail
 go_loopg [3,31] 16 (fun gk s3 s31 wr=>∃ i:Nat,∃ Z:ByteArray,i≤k∧gk=16-i∧s31=.int .i64 i∧s3=.string Z∧Hid (Z.data.toList=headL ⟨g,e,l,v,o,n⟩++pairsF (nth o) (nth n) i)∧Hid (InvC w w.heap.size g e l v (some ⟨ba,oa,none⟩) k p (some ⟨bb,ob,none⟩) k q o n wr))
 case atStart=>exact ⟨0,U4,by omega,rfl,rfl,rfl,Lib.hid (by rw [E4.out]; simp [pairsF]),Lib.hid j0.h⟩
 case round =>
  obtain ⟨i,Z,hi,hgk,rfl,rfl,HZ,V⟩:=hrel
  have HG:=Lib.hid hgk
  clear hgk
  have zZ:Z.size=29+2*i:=by rw [Go.Lib.size_eq,HZ.out,List.length_append,headL_len,pairsF_len]
  by_cases hlt:i<k
  ·have hlti:(i:Int)<(k:Int):=by omega
   have hoi:i<o.length:=by have:=HO.out; omega
   have hni:i<n.length:=by have:=HN.out; omega
   obtain ⟨x,X⟩:∃ x,Hid (nth o i=x):=⟨_,rfl⟩
   obtain ⟨y,Y⟩:∃ y,Hid (nth n i=y):=⟨_,rfl⟩
   have hx:0≤x∧x<16:=by rw [← X.out]; exact SG.out.2.2.2.1 _ (nth_mem hoi)
   have hy:0≤y∧y≤30:=by rw [← Y.out]; exact SG.out.2.2.2.2.1 _ (nth_mem hni)
   obtain ⟨hx0,hx1⟩:=hx
   obtain ⟨hy0,hy1⟩:=hy
   have ha:=((bcell V.out.b).1 ba (oa+i) hba).trans (CA.out i hlt)
   rw [X.out] at ha
   obtain ⟨X1,HX⟩:∃ T:ByteArray,Hid ((⟨(putL x.toNat (clampN 1)).toArray⟩:ByteArray)=T):=⟨_,rfl⟩
   obtain ⟨Y1,HY⟩:∃ T:ByteArray,Hid ((⟨(putL y.toNat (clampN 1)).toArray⟩:ByteArray)=T):=⟨_,rfl⟩
   have zx:X1.size=1:=by rw [← HX.out]; exact put_size _ _
   have zy:Y1.size=1:=by rw [← HY.out]; exact put_size _ _
   obtain ⟨XY,JX⟩:∃ U,X1++Y1=U:=⟨_,rfl⟩
   obtain ⟨ZZ,JZ⟩:∃ U,Z++XY=U:=⟨_,rfl⟩
   have zxy:XY.size=2:=by rw [← JX,ByteArray.size_append]; omega
   have r1:¬ 9223372036854775807<X1.size+Y1.size:=by omega
   have r2:¬ 9223372036854775807<Z.size+XY.size:=by omega
   have HZZ:Hid (ZZ.data.toList=headL ⟨g,e,l,v,o,n⟩++pairsF (nth o) (nth n) (i+1)):=by
    refine Lib.hid ?_
    rw [← JZ,ByteArray.data_append,Array.toList_append,HZ.out,← JX,ByteArray.data_append,Array.toList_append,← HX.out,← HY.out,pairsF,X.out,Y.out,List.append_assoc]
    rfl
   have V0:=V.out
   obtain ⟨_,⟨lt0,c0,c1,c2,c3,c4,c5⟩,_,_⟩:=V0
   clear zZ zx zy zxy
   go_wp2_with fail
   have G5:∀ j:In (InvC w w.heap.size g e l v (some ⟨ba,oa,none⟩) k p (some ⟨bb,ob,none⟩) k q o n),j.W.cell? ⟨bb,ob+i,none⟩=some (.int .i64 y):=fun j=>by
    rw [← Y.out]; exact ((bcell j.h.b).1 bb (ob+i) hbb).trans (CB.out i hlt)
   refine region_class (InvC w w.heap.size g e l v (some ⟨ba,oa,none⟩) k p (some ⟨bb,ob,none⟩) k q o n) (by kernel_rfl) (by kernel_rfl) V.out.drawn ?_
   repeat (go_big_quiet_step (first
    | (go_at_call 193; with_reducible exact class_call _ (fun hi=>inv_ge hi (put_at x 1 X1 _ hx0 (by omega) HX.out)))
    | (go_at_call 193; with_reducible exact class_call _ (fun hi=>inv_ge hi (put_at y 1 Y1 _ hy0 (by omega) HY.out)))))
   refine wpQuiet_nil ?_
   rintro _ ⟨j1,rfl⟩
   go_wp2_with fail
   go_roundg (16-(i+1))
   case measure=>have:=HG.out; omega
   case rel=>exact ⟨i+1,ZZ,by omega,rfl,by go_num,rfl,HZZ,Lib.hid j1.h⟩
  ·obtain rfl:i=k:=by omega
   have hlti:¬ (i:Int)<(i:Int):=by omega
   obtain ⟨c,hc⟩:∃ c:Nat,116-(Z.size:Int)=(c:Int):=⟨116-Z.size,by omega⟩
   obtain ⟨Y,HY⟩:∃ Y:ByteArray,Hid ((⟨(repeatL ((⟨#[0]⟩:ByteArray).data.toList) c).toArray⟩:ByteArray)=Y):=⟨_,rfl⟩
   have zz:Y.size=c:=by rw [← HY.out,Go.Lib.size_eq]; simp [repeatL_length]
   have JS:Hid (Z++Y=S):=by
    refine Lib.hid (app_is ?_)
    have ef:headL ⟨g,e,l,v,o,n⟩++pairsF (nth o) (nth n) i=fieldsL ⟨g,e,l,v,o,n⟩:=by
     unfold fieldsL pairsL
     rw [← HO.out]
    rw [HZ.out,← HY.out,← hS,bodyL,hlen,ef]
    have ec:c=116-(29+2*o.length):=by have:=HO.out; omega
    rw [← ec,← rep0 c]
   have r1:¬ 9223372036854775807<Z.size+Y.size:=by omega
   have C:=Lib.hid (fun w=>Sh.strings_Repeat ⟨#[0]⟩ c w (by omega) (by show 1*c≤_; omega))
   rw [HY.out] at C
   clear zZ zz hlen hS
   go_wp2_with fail
   refine (C.out _).mono ?_
   rintro e' w' ⟨rfl,hb⟩
   go_wp2_with fail
   go_ret
   exact ⟨by rw [JS.out]; rfl,Wd.Ge.trans V.out.b hb⟩
theorem sum_is (s:ByteArray) (M:Int) (w:World) (hs:s.size≤maxLen) (hM:((Crc.more 0 s.data.toList:Nat):Int)=M) :
 Calls Tryz.prog 194 #[.string s] w fun e w'=>e=.returned (.int .u32 M)∧Below w.heap.size w w':=by
 subst hM; exact sum_any s w hs
set_option maxHeartbeats 4000000 in
set_option maxRecDepth 100000 in
theorem encode_yes (g e l v:Int) (A:Option Addr) (m p:Nat) (B:Option Addr) (k q:Nat) (o n:List Int) (S:ByteArray) (w:World) (hA:Sl w A m o) (hB:Sl w B k n) (hf:Fits ⟨g,e,l,v,o,n⟩) (h:okC ⟨g,e,l,v,o,n⟩=true) (hS:secL ⟨g,e,l,v,o,n⟩=S.data.toList) :
 Calls Tryz.prog 166 #[.agg #[.int .u64 g,.int .u32 e,.int .u64 l,.int .u64 v,.slice A m p,.slice B k q]] w fun e' w'=>e' = .returned (.tuple #[.string S,.int .i64 0])∧Below w.heap.size w w':=by
 have h0:=inv0 g e l v A m p B k q 42 w hA hB
 obtain ⟨ho1,ho2,ho3⟩:=okC_o h
 simp only at ho1 ho2 ho3
 have hmo:=hA.len
 have C:=Lib.hid (fun W (hA:Sl W A m o) (hB:Sl W B k n)=>right_is g e l v A m p B k q o n true W hA hB (by unfold maxLen; omega) hf.g0 hf.l0 h)
 obtain ⟨b,Hb⟩:∃ T:ByteArray,Hid (bodyL ⟨g,e,l,v,o,n⟩=T.data.toList):=⟨⟨(bodyL ⟨g,e,l,v,o,n⟩).toArray⟩,Lib.hid (by simp)⟩
 have D:=Lib.hid (fun W (hA:Sl W A m o) (hB:Sl W B k n)=>body_any g e l v A m p B k q o n b W hA hB hf h Hb.out)
 obtain ⟨g0,g1,e0,e1,l0,l1,v0,v1⟩:=hf
 simp only at g0 g1 e0 e1 l0 l1 v0 v1
 obtain ⟨M,HM⟩:∃ M:Int,Hid (((Crc.more 0 b.data.toList:Nat):Int)=M):=⟨_,rfl⟩
 have M0:0≤M:=by rw [← HM.out]; omega
 have M1:M<4294967296:=by
  have:=Crc.more_lt b.data.toList (s:=0) (by omega)
  rw [← HM.out]; omega
 obtain ⟨T0,H0⟩:∃ T:ByteArray,Hid ((⟨(putL g.toNat (clampN 8)).toArray⟩:ByteArray)=T):=⟨_,rfl⟩
 obtain ⟨T1,H1⟩:∃ T:ByteArray,Hid ((⟨(putL M.toNat (clampN 4)).toArray⟩:ByteArray)=T):=⟨_,rfl⟩
 have zb:b.size=116:=by rw [Go.Lib.size_eq,← Hb.out]; exact bodyL_len h
 have z0:T0.size=8:=by rw [← H0.out]; exact put_size _ _
 have z1:T1.size=4:=by rw [← H1.out]; exact put_size _ _
 obtain ⟨U1,J1⟩:∃ U,b++T1=U:=⟨_,rfl⟩
 have y1:U1.size=120:=by rw [← J1,ByteArray.size_append]; omega
 have JS:U1++T0=S:=by
  refine app_is ?_
  rw [← J1,ByteArray.data_append,Array.toList_append,← Hb.out,← H0.out,← H1.out,← hS,secL,← HM.out,← Hb.out,Int.toNat_natCast]
  rfl
 have q1:¬ 9223372036854775807<b.size+T1.size:=by omega
 have q2:¬ 9223372036854775807<U1.size+T0.size:=by omega
 have hbs:b.size≤maxLen:=by unfold maxLen; omega
 clear ho1 ho2 ho3 hmo zb z0 z1 y1 hS h
 go_enter Tryz.func166,Tryz.ntmps166
 go_wp2_with fail
 refine (C.out _ h0.sa h0.sb).mono ?_
 rintro e' w1 ⟨rfl,hb1⟩
 have h1:=h0.later hb1
 obtain ⟨gg,c0,c1,c2,c3,c4,c5⟩:=h1.L
 go_wp2_with fail
 refine (D.out _ h1.sa h1.sb).mono ?_
 rintro e' w2 ⟨rfl,hb2⟩
 have h2:=h1.later hb2
 clear c0 c1 c2 c3 c4 c5 h1 hb1 hb2 h0
 go_wp2_with fail
 have hne:Nonempty (In (InvC w w.heap.size g e l v A m p B k q o n)):=⟨⟨_,h2⟩⟩
 have F0:∀ j:In (InvC w w.heap.size g e l v A m p B k q o n),j.W.cell? ⟨w.heap.size,0,none⟩=some (.int .u64 g):=fun j=>j.h.L.c0
 refine region_class (InvC w w.heap.size g e l v A m p B k q o n) (by kernel_rfl) (by kernel_rfl) h2.drawn ?_
 repeat (go_big_quiet_step (first
  | (go_at_call 194; with_reducible exact class_call _ (fun hi=>inv_ge hi (sum_is b M _ hbs HM.out)))
  | (go_at_call 193; with_reducible exact class_call _ (fun hi=>inv_ge hi (put_at M 4 T1 _ M0 (by omega) H1.out)))
  | (go_at_call 193; with_reducible exact class_call _ (fun hi=>inv_ge hi (put_at g 8 T0 _ g0 g1 H0.out)))))
 refine wpQuiet_nil ?_
 rintro _ ⟨j,rfl⟩
 go_wp2_with fail
 go_ret2
 exact ⟨rfl,j.h.b⟩
open Go.RowKit Go.Lib Wd Cr
set_option linter.unusedVariables false
def Blk (w:World) (g:Nat) (t:TypeId) (cs:Array Value):Prop:=w.heap[g]? = some (.cells cs t (0,0))
section
variable {w w' : World} {g:Nat} {t:TypeId} {cs:Array Value}
theorem Blk.lt (h:Blk w g t cs):g<w.heap.size:=(Array.getElem?_eq_some_iff.1 h).1
theorem Blk.cell (h:Blk w g t cs) (i:Nat):w.cell? ⟨g,i,none⟩=cs[i]?:=cell_of_row w g i cs t (0,0) h
theorem Blk.new (w:World) (t:TypeId) (cs:Array Value):Blk (w.alloc (.cells cs t)) w.heap.size t cs:=heap_alloc_last w _
theorem Blk.later (h:Blk w g t cs) (hb:Below w.heap.size w w'):Blk w' g t cs:=(hb.block g h.lt).trans h
theorem Blk.row (h:Blk w g t cs) (ds:Array Value):Blk (w.setRow g ds) g t ds:=by
 unfold Blk at h ⊢
 unfold World.setRow
 rw [Array.getElem?_modify,if_pos rfl,h]
 rfl
theorem Blk.far (h:Blk w g t cs) {g' : Nat} (hg:g'≠g) (ds:Array Value):Blk (w.setRow g' ds) g t cs:=by
 unfold Blk at h ⊢
 unfold World.setRow
 rw [Array.getElem?_modify,if_neg hg,h]
theorem Blk.range (h:Blk w g t cs) (o:Nat) (l:List Value) (hl:∀ j v,l[j]? = some v→cs[o+j]? = some v):w.rangeAt g o l:=fun j v hv=>by
 rw [h.cell]; exact hl j v hv
theorem row_size (w:World) (g:Nat) (ds:Array Value):(w.setRow g ds).heap.size=w.heap.size:=by unfold World.setRow; simp
theorem below_row {n:Nat} {w0:World} (hb:Below n w0 w) (hg:n≤g) (ds:Array Value):Below n w0 (w.setRow g ds) :=
 ⟨hb.os,hb.tape,hb.output,by rw [row_size]; exact hb.size,fun b hbn=>by
  unfold World.setRow
  rw [Array.getElem?_modify,if_neg (by omega)]
  exact hb.block b hbn⟩
end
def z128:Array Value:=(List.replicate 128 (Value.int .u8 0)).toArray
def rowB (l:List UInt8) (i:Nat):Array Value:=(byteCells (l.take i)++List.replicate (128-i) (Value.int .u8 0)).toArray
theorem rowB_zero (l:List UInt8):rowB l 0=z128:=by
 unfold rowB z128
 simp [byteCells]
theorem rowB_size (l:List UInt8) (i:Nat) (hl:l.length=128) (hi:i≤128):(rowB l i).size=128:=by
 unfold rowB
 simp [byteCells_length,hl]
 omega
theorem zero_fields:(∀ w,(zeroValue 274).run Tryz.prog w=.ok (.agg z128) w)∧(Tryz.prog.info? 274).map (·.size)=some 128:=by
 have h:(Tryz.prog.info? 274).map (fun i=>(i.zero,i.size))=some (some (.agg z128),128):=by kernel_rfl
 exact zero_of_info h
theorem copy_at (W:World) (g:Nat) (t:TypeId) (l:List UInt8) (off n:Nat) (rest:ByteArray) (hB:Blk W g t (rowB l off)) (hl:l.length=128) (hr:rest.data.toList=l.drop off) (hn:off+n≤128) :
 (Builtin.copy_ #[115,9] 3 #[.slice (some ⟨g,off,none⟩) n n,.string rest]).run Tryz.prog W=.ok (.int .i64 n) (W.setRow g (rowB l (off+n))):=by
 have hrs:rest.size=128-off:=by rw [Go.Lib.size_eq,hr,List.length_drop,hl]
 have hmin:Nat.min rest.size n=n:=Nat.min_eq_right (by omega)
 have hlen:(byteCells ((l.drop off).take n)).length=n:=by rw [byteCells_length,List.length_take,List.length_drop]; omega
 have hst:=run_storeCells_at Tryz.prog g off t (byteCells ((l.drop off).take n)) 0 (rowB l off) W hB (by rw [hlen,rowB_size l off hl (by omega)]; omega) (byteCells_one _)
 rw [hlen] at hst
 have htk:List.take n (List.map (fun b:UInt8=>Value.int IntKind.u8 (b.toNat:Int)) rest.data.toList)=byteCells ((l.drop off).take n):=by
  rw [hr,byteCells,List.map_take]
 have hz:∀ w,(Go.sizeOf 5).run Tryz.prog w=.ok 1 w:=by
  intro w; rfl
 have hrow:(List.take (off+0) (rowB l off).toList++byteCells ((l.drop off).take n)++List.drop (off+0+n) (rowB l off).toList).toArray=rowB l (off+n):=by
  unfold rowB
  congr 1
  have h1:(byteCells (l.take off)).length=off:=by rw [byteCells_length,List.length_take]; omega
  simp only [Nat.add_zero]
  rw [List.take_append_of_le_length (by omega),List.take_of_length_le (by omega),List.drop_append,h1,List.drop_of_length_le (l:=byteCells (l.take off)) (by omega),List.nil_append,List.drop_replicate]
  congr 1
  ·unfold byteCells
   rw [← List.map_append,List.take_add]
  ·congr 1; omega
 simp [Builtin.copy_,run_underlying Tryz.underlying115,Builtin.lenOf,Builtin.firstCells,hz]
 simp only [hmin]
 rw [htk,hst,hrow]
 rfl
theorem cut_no (s:ByteArray) (w:World) (hs:s.size≤maxLen) (h:s.size≠128) :
 Calls Tryz.prog 203 #[.string s] w fun e w'=>e=.panicked bad∧Below w.heap.size w w':=by
 have hv:=zero_fields.1
 have hq:((s.size:Int) == 128)=false:=by simp; omega
 have B0:=Lib.hid (below1 w (.cells z128 274))
 go_enter Tryz.func203,Tryz.ntmps203
 go_wp2_with fail
 refine (need_no _).mono ?_
 rintro e w' ⟨rfl,rfl⟩
 go_wp2_with fail
 exact ⟨rfl,rfl,B0.out⟩
theorem rowB_one (l:List UInt8) (i:Nat):(rowB l i).all (·.oneCell')=true:=by
 unfold rowB
 refine all_oneCell_toArray (fun v hv=>?_)
 rcases List.mem_append.1 hv with h|h
 ·exact byteCells_one _ v h
 ·rw [List.eq_of_mem_replicate h]; rfl
theorem info_row (l:List UInt8) (hl:l.length=128) (i:Nat) (hi:i≤128):(Tryz.prog.info? 274).map (·.size)=some (rowB l i).size:=by rw [rowB_size l i hl hi]; exact zero_fields.2
theorem drop_ext (T:ByteArray) (l:List UInt8) (off n N:Nat) (h:T.data.toList=l.drop off) (hz:T.size=N):(T.extract n N).data.toList=l.drop (off+n):=by
 have e:(T.extract n N).data.toList=(T.data.toList.take N).drop n:=by
  subst hz
  simp [ByteArray.data_extract,Array.toList_extract]
  rw [List.drop_take]
 rw [e,List.take_of_length_le (by rw [← hz,Go.Lib.size_eq]; exact Nat.le_refl _),h,List.drop_drop]
section
variable {ops:Array Oper} {rest:List Oper} {o:Oper} {a:Act} {w:World} {Q:Exit→Act→World→Prop}
theorem load_f (hgd:o.guard=none) (x:Operand) (ho:o.op=.load 274 x) (g:Nat) (hx:a.eval x=.pointer (some ⟨g,0,none⟩)) (l:List UInt8) (hl:l.length=128) (hg:Blk w g 274 (rowB l 128))
 (h:wpList Tryz.prog ops Q rest (a.put o.dst (.agg (rowB l 128))) w):wpList Tryz.prog ops Q (o :: rest) a w :=
 wpList_load_row hgd _ x ho g hx _ (rowB l 128) (0,0) _ hg Tryz.underlying274 rfl (info_row l hl 128 (by omega)) h
theorem store_f (hgd:o.guard=none) (x y:Operand) (ho:o.op=.store 274 x y) (g:Nat) (hx:a.eval x=.pointer (some ⟨g,0,none⟩)) (l:List UInt8) (hl:l.length=128) (hy:a.eval y=.agg (rowB l 128)) (hg:Blk w g 274 z128)
 (h:wpList Tryz.prog ops Q rest (a.put o.dst undef) (w.setRow g (rowB l 128))):wpList Tryz.prog ops Q (o :: rest) a w :=
 wpList_store_row hgd _ x y ho g (rowB l 128) hx hy _ z128 hg (info_row l hl 128 (by omega)) (by rw [rowB_size l 128 hl (by omega)]; simp [z128]) (rowB_one l 128) h
end
set_option maxHeartbeats 4000000 in
set_option maxRecDepth 100000 in
theorem cut_yes (s:ByteArray) (w:World) (h:s.size=128) :
 Calls Tryz.prog 203 #[.string s] w fun e w'=>e=.returned (.agg (rowB s.data.toList 128))∧Below w.heap.size w w':=by
 have hv:=zero_fields.1
 have hq:((s.size:Int) == 128)=true:=by simp; omega
 obtain ⟨l,EL⟩:∃ l,Hid (s.data.toList=l):=⟨_,rfl⟩
 have hl:l.length=128:=by rw [← EL.out,← Go.Lib.size_eq,h]
 rw [EL.out]
 obtain ⟨W0,E0⟩:∃ W0,Hid ((((w.alloc (.cells z128 274)).alloc (.cells z128 274)).alloc (.cells #[.slice (some ⟨w.heap.size+1,0,none⟩) 8 8,.slice (some ⟨w.heap.size+1,8,none⟩) 4 4,.slice (some ⟨w.heap.size+1,12,none⟩) 8 8,.slice (some ⟨w.heap.size+1,20,none⟩) 8 8,.slice (some ⟨w.heap.size+1,28,none⟩) 1 1,.slice (some ⟨w.heap.size+1,29,none⟩) 87 87,.slice (some ⟨w.heap.size+1,116,none⟩) 4 4,.slice (some ⟨w.heap.size+1,120,none⟩) 8 8] 115)).drew=W0):=⟨_,rfl⟩
 have R0:Blk W0 w.heap.size 274 z128:=by rw [← E0.out]; exact (((Blk.new _ _ _).later (below1 _ _)).later (below1 _ _)).later (below_drawn _)
 have K0:Blk W0 (w.heap.size+1) 274 (rowB l 0):=by
  rw [← E0.out,rowB_zero]
  have:=((Blk.new (w.alloc (.cells z128 274)) 274 z128).later (below1 _ (.cells #[.slice (some ⟨w.heap.size+1,0,none⟩) 8 8,.slice (some ⟨w.heap.size+1,8,none⟩) 4 4,.slice (some ⟨w.heap.size+1,12,none⟩) 8 8,.slice (some ⟨w.heap.size+1,20,none⟩) 8 8,.slice (some ⟨w.heap.size+1,28,none⟩) 1 1,.slice (some ⟨w.heap.size+1,29,none⟩) 87 87,.slice (some ⟨w.heap.size+1,116,none⟩) 4 4,.slice (some ⟨w.heap.size+1,120,none⟩) 8 8] 115))).later (below_drawn _)
  rw [show (w.alloc (.cells z128 274)).heap.size=w.heap.size+1 by simp] at this
  exact this
 have N0:Blk W0 (w.heap.size+1+1) 115 #[.slice (some ⟨w.heap.size+1,0,none⟩) 8 8,.slice (some ⟨w.heap.size+1,8,none⟩) 4 4,.slice (some ⟨w.heap.size+1,12,none⟩) 8 8,.slice (some ⟨w.heap.size+1,20,none⟩) 8 8,.slice (some ⟨w.heap.size+1,28,none⟩) 1 1,.slice (some ⟨w.heap.size+1,29,none⟩) 87 87,.slice (some ⟨w.heap.size+1,116,none⟩) 4 4,.slice (some ⟨w.heap.size+1,120,none⟩) 8 8]:=by
  rw [← E0.out]
  have:=(Blk.new ((w.alloc (.cells z128 274)).alloc (.cells z128 274)) 115 #[.slice (some ⟨w.heap.size+1,0,none⟩) 8 8,.slice (some ⟨w.heap.size+1,8,none⟩) 4 4,.slice (some ⟨w.heap.size+1,12,none⟩) 8 8,.slice (some ⟨w.heap.size+1,20,none⟩) 8 8,.slice (some ⟨w.heap.size+1,28,none⟩) 1 1,.slice (some ⟨w.heap.size+1,29,none⟩) 87 87,.slice (some ⟨w.heap.size+1,116,none⟩) 4 4,.slice (some ⟨w.heap.size+1,120,none⟩) 8 8]).later (below_drawn _)
  rw [show ((w.alloc (.cells z128 274)).alloc (.cells z128 274)).heap.size=w.heap.size+1+1 by simp] at this
  exact this
 have B0:Below w.heap.size w W0:=by rw [← E0.out]; exact Wd.Ge.trans (Wd.Ge.trans (Wd.Ge.trans (below1 _ _) (below1 _ _)) (below1 _ _)) (below_drawn _)
 have D0:=EL.out
 have s0:=h
 obtain ⟨W1,E1⟩:∃ W,Hid (W0.setRow (w.heap.size+1) (rowB l 8)=W):=⟨_,rfl⟩
 have M0:=copy_at W0 (w.heap.size+1) 274 l 0 8 s K0 hl D0 (by omega)
 rw [show 0+8=8 from rfl,E1.out,show ((8:Nat):Int)=8 from rfl] at M0
 have L0:=N0.cell 0
 simp only [List.getElem?_toArray,List.getElem?_cons_zero] at L0
 obtain ⟨T1,X0⟩:∃ T,s.extract 8 128=T:=⟨_,rfl⟩
 have D1:T1.data.toList=l.drop 8:=by rw [← X0]; exact drop_ext s l 0 8 128 D0 s0
 have s1:T1.size=120:=by rw [Go.Lib.size_eq,D1,List.length_drop,hl]
 have K1:Blk W1 (w.heap.size+1) 274 (rowB l 8):=by rw [← E1.out]; exact K0.row _
 have R1:Blk W1 w.heap.size 274 z128:=by rw [← E1.out]; exact R0.far (by omega) _
 have N1:=N0.far (g':=w.heap.size+1) (by omega) (rowB l 8)
 rw [E1.out] at N1
 have B1:Below w.heap.size w W1:=by rw [← E1.out]; exact below_row B0 (by omega) _
 clear K0 R0 N0 B0 E1
 obtain ⟨W2,E2⟩:∃ W,Hid (W1.setRow (w.heap.size+1) (rowB l 12)=W):=⟨_,rfl⟩
 have M1:=copy_at W1 (w.heap.size+1) 274 l 8 4 T1 K1 hl D1 (by omega)
 rw [show 8+4=12 from rfl,E2.out,show ((4:Nat):Int)=4 from rfl] at M1
 have L1:=N1.cell 1
 simp only [List.getElem?_toArray,List.getElem?_cons_succ,List.getElem?_cons_zero] at L1
 obtain ⟨T2,X1⟩:∃ T,T1.extract 4 120=T:=⟨_,rfl⟩
 have D2:T2.data.toList=l.drop 12:=by rw [← X1]; exact drop_ext T1 l 8 4 120 D1 s1
 have s2:T2.size=116:=by rw [Go.Lib.size_eq,D2,List.length_drop,hl]
 have K2:Blk W2 (w.heap.size+1) 274 (rowB l 12):=by rw [← E2.out]; exact K1.row _
 have R2:Blk W2 w.heap.size 274 z128:=by rw [← E2.out]; exact R1.far (by omega) _
 have N2:=N1.far (g':=w.heap.size+1) (by omega) (rowB l 12)
 rw [E2.out] at N2
 have B2:Below w.heap.size w W2:=by rw [← E2.out]; exact below_row B1 (by omega) _
 clear K1 R1 N1 B1 E2
 obtain ⟨W3,E3⟩:∃ W,Hid (W2.setRow (w.heap.size+1) (rowB l 20)=W):=⟨_,rfl⟩
 have M2:=copy_at W2 (w.heap.size+1) 274 l 12 8 T2 K2 hl D2 (by omega)
 rw [show 12+8=20 from rfl,E3.out,show ((8:Nat):Int)=8 from rfl] at M2
 have L2:=N2.cell 2
 simp only [List.getElem?_toArray,List.getElem?_cons_succ,List.getElem?_cons_zero] at L2
 obtain ⟨T3,X2⟩:∃ T,T2.extract 8 116=T:=⟨_,rfl⟩
 have D3:T3.data.toList=l.drop 20:=by rw [← X2]; exact drop_ext T2 l 12 8 116 D2 s2
 have s3:T3.size=108:=by rw [Go.Lib.size_eq,D3,List.length_drop,hl]
 have K3:Blk W3 (w.heap.size+1) 274 (rowB l 20):=by rw [← E3.out]; exact K2.row _
 have R3:Blk W3 w.heap.size 274 z128:=by rw [← E3.out]; exact R2.far (by omega) _
 have N3:=N2.far (g':=w.heap.size+1) (by omega) (rowB l 20)
 rw [E3.out] at N3
 have B3:Below w.heap.size w W3:=by rw [← E3.out]; exact below_row B2 (by omega) _
 clear K2 R2 N2 B2 E3
 obtain ⟨W4,E4⟩:∃ W,Hid (W3.setRow (w.heap.size+1) (rowB l 28)=W):=⟨_,rfl⟩
 have M3:=copy_at W3 (w.heap.size+1) 274 l 20 8 T3 K3 hl D3 (by omega)
 rw [show 20+8=28 from rfl,E4.out,show ((8:Nat):Int)=8 from rfl] at M3
 have L3:=N3.cell 3
 simp only [List.getElem?_toArray,List.getElem?_cons_succ,List.getElem?_cons_zero] at L3
 obtain ⟨T4,X3⟩:∃ T,T3.extract 8 108=T:=⟨_,rfl⟩
 have D4:T4.data.toList=l.drop 28:=by rw [← X3]; exact drop_ext T3 l 20 8 108 D3 s3
 have s4:T4.size=100:=by rw [Go.Lib.size_eq,D4,List.length_drop,hl]
 have K4:Blk W4 (w.heap.size+1) 274 (rowB l 28):=by rw [← E4.out]; exact K3.row _
 have R4:Blk W4 w.heap.size 274 z128:=by rw [← E4.out]; exact R3.far (by omega) _
 have N4:=N3.far (g':=w.heap.size+1) (by omega) (rowB l 28)
 rw [E4.out] at N4
 have B4:Below w.heap.size w W4:=by rw [← E4.out]; exact below_row B3 (by omega) _
 clear K3 R3 N3 B3 E4
 obtain ⟨W5,E5⟩:∃ W,Hid (W4.setRow (w.heap.size+1) (rowB l 29)=W):=⟨_,rfl⟩
 have M4:=copy_at W4 (w.heap.size+1) 274 l 28 1 T4 K4 hl D4 (by omega)
 rw [show 28+1=29 from rfl,E5.out,show ((1:Nat):Int)=1 from rfl] at M4
 have L4:=N4.cell 4
 simp only [List.getElem?_toArray,List.getElem?_cons_succ,List.getElem?_cons_zero] at L4
 obtain ⟨T5,X4⟩:∃ T,T4.extract 1 100=T:=⟨_,rfl⟩
 have D5:T5.data.toList=l.drop 29:=by rw [← X4]; exact drop_ext T4 l 28 1 100 D4 s4
 have s5:T5.size=99:=by rw [Go.Lib.size_eq,D5,List.length_drop,hl]
 have K5:Blk W5 (w.heap.size+1) 274 (rowB l 29):=by rw [← E5.out]; exact K4.row _
 have R5:Blk W5 w.heap.size 274 z128:=by rw [← E5.out]; exact R4.far (by omega) _
 have N5:=N4.far (g':=w.heap.size+1) (by omega) (rowB l 29)
 rw [E5.out] at N5
 have B5:Below w.heap.size w W5:=by rw [← E5.out]; exact below_row B4 (by omega) _
 clear K4 R4 N4 B4 E5
 obtain ⟨W6,E6⟩:∃ W,Hid (W5.setRow (w.heap.size+1) (rowB l 116)=W):=⟨_,rfl⟩
 have M5:=copy_at W5 (w.heap.size+1) 274 l 29 87 T5 K5 hl D5 (by omega)
 rw [show 29+87=116 from rfl,E6.out,show ((87:Nat):Int)=87 from rfl] at M5
 have L5:=N5.cell 5
 simp only [List.getElem?_toArray,List.getElem?_cons_succ,List.getElem?_cons_zero] at L5
 obtain ⟨T6,X5⟩:∃ T,T5.extract 87 99=T:=⟨_,rfl⟩
 have D6:T6.data.toList=l.drop 116:=by rw [← X5]; exact drop_ext T5 l 29 87 99 D5 s5
 have s6:T6.size=12:=by rw [Go.Lib.size_eq,D6,List.length_drop,hl]
 have K6:Blk W6 (w.heap.size+1) 274 (rowB l 116):=by rw [← E6.out]; exact K5.row _
 have R6:Blk W6 w.heap.size 274 z128:=by rw [← E6.out]; exact R5.far (by omega) _
 have N6:=N5.far (g':=w.heap.size+1) (by omega) (rowB l 116)
 rw [E6.out] at N6
 have B6:Below w.heap.size w W6:=by rw [← E6.out]; exact below_row B5 (by omega) _
 clear K5 R5 N5 B5 E6
 obtain ⟨W7,E7⟩:∃ W,Hid (W6.setRow (w.heap.size+1) (rowB l 120)=W):=⟨_,rfl⟩
 have M6:=copy_at W6 (w.heap.size+1) 274 l 116 4 T6 K6 hl D6 (by omega)
 rw [show 116+4=120 from rfl,E7.out,show ((4:Nat):Int)=4 from rfl] at M6
 have L6:=N6.cell 6
 simp only [List.getElem?_toArray,List.getElem?_cons_succ,List.getElem?_cons_zero] at L6
 obtain ⟨T7,X6⟩:∃ T,T6.extract 4 12=T:=⟨_,rfl⟩
 have D7:T7.data.toList=l.drop 120:=by rw [← X6]; exact drop_ext T6 l 116 4 12 D6 s6
 have s7:T7.size=8:=by rw [Go.Lib.size_eq,D7,List.length_drop,hl]
 have K7:Blk W7 (w.heap.size+1) 274 (rowB l 120):=by rw [← E7.out]; exact K6.row _
 have R7:Blk W7 w.heap.size 274 z128:=by rw [← E7.out]; exact R6.far (by omega) _
 have N7:=N6.far (g':=w.heap.size+1) (by omega) (rowB l 120)
 rw [E7.out] at N7
 have B7:Below w.heap.size w W7:=by rw [← E7.out]; exact below_row B6 (by omega) _
 clear K6 R6 N6 B6 E7
 obtain ⟨W8,E8⟩:∃ W,Hid (W7.setRow (w.heap.size+1) (rowB l 128)=W):=⟨_,rfl⟩
 have M7:=copy_at W7 (w.heap.size+1) 274 l 120 8 T7 K7 hl D7 (by omega)
 rw [show 120+8=128 from rfl,E8.out,show ((8:Nat):Int)=8 from rfl] at M7
 have L7:=N7.cell 7
 simp only [List.getElem?_toArray,List.getElem?_cons_succ,List.getElem?_cons_zero] at L7
 obtain ⟨T8,X7⟩:∃ T,T7.extract 8 8=T:=⟨_,rfl⟩
 have D8:T8.data.toList=l.drop 128:=by rw [← X7]; exact drop_ext T7 l 120 8 8 D7 s7
 have s8:T8.size=0:=by rw [Go.Lib.size_eq,D8,List.length_drop,hl]
 have K8:Blk W8 (w.heap.size+1) 274 (rowB l 128):=by rw [← E8.out]; exact K7.row _
 have R8:Blk W8 w.heap.size 274 z128:=by rw [← E8.out]; exact R7.far (by omega) _
 have N8:=N7.far (g':=w.heap.size+1) (by omega) (rowB l 128)
 rw [E8.out] at N8
 have B8:Below w.heap.size w W8:=by rw [← E8.out]; exact below_row B7 (by omega) _
 clear K7 R7 N7 B7 E8
 clear D0 D1 D2 D3 D4 D5 D6 D7 D8 N8
 have hi8:=info_row l hl 128 (by omega)
 have KK:=Lib.hid K8
 have RR:=Lib.hid R8
 have BB:=Lib.hid B8
 have HI:=Lib.hid hi8
 have HL:=Lib.hid hl
 clear K8 R8 B8 hi8 hl
 go_enter Tryz.func203,Tryz.ntmps203
 go_wp2_with fail
 refine (need_yes _).mono ?_
 rintro e w' ⟨rfl,rfl⟩
 go_wp2_with fail
 go_region
 rw [E0.out]
 clear E0
 go_wp2_with fail
 refine wp_loop_rounds 9 ?_
 iterate 8 (rw [rounds_succ]; go_wp2_with fail)
 rw [rounds_succ]
 go_wp2_with (first
  | (with_reducible refine load_f rfl (.tmp 3) rfl (w.heap.size+1) rfl l HL.out KK.out ?_)
  | (with_reducible refine store_f rfl (.tmp 2) (.tmp 40) rfl w.heap.size rfl l HL.out rfl RR.out ?_))
 have hh:=RR.out.row (rowB l 128)
 clear M0 L0 X0 s0 M1 L1 X1 s1 M2 L2 X2 s2 M3 L3 X3 s3 M4 L4 X4 s4 M5 L5 X5 s5 M6 L6 X6 s6 M7 L7 X7 s7 s8
 refine bodyPost_ret (v:=.agg (rowB l 128)) (results_cell_row (by rfl) _ _ w.heap.size _ (rowB l 128) _ _ (by rfl) hh Tryz.underlying274 rfl HI.out) rfl ⟨rfl,?_⟩
 exact below_row BB.out (Nat.le_refl _) _
open Go.RowKit Go.Lib Wd Cr
set_option linter.unusedVariables false
def rowV (b:List UInt8):Array Value:=(byteCells b).toArray
theorem rowV_at (b:List UInt8) (i:Nat) (h:i<b.length):(rowV b)[i]? = some (.int .u8 (byteAt b i:Nat)):=by
 simp [rowV,byteCells,byteAt,List.getElem?_eq_getElem h]
def Zeros (b:List UInt8) (n:Nat):Prop:=∀ i,2*n≤i→i<87→byteAt b i=0
def evens (b:List UInt8) (n:Nat):List Int:=(List.range n).map fun i=>((byteAt b (2*i):Nat):Int)
def odds (b:List UInt8) (n:Nat):List Int:=(List.range n).map fun i=>((byteAt b (2*i+1):Nat):Int)
def SegP (b:List UInt8) (n:Nat) (w:World) (e:Ending) (w' : World):Prop :=
 Below w.heap.size w w'∧((Zeros b n∧∃ bo bl:Nat,e=.returned (.tuple #[.slice (some ⟨bo,0,none⟩) n n,.slice (some ⟨bl,0,none⟩) n n])∧(w.heap.size<bo∧bo<w'.heap.size∧w.heap.size<bl∧bl<w'.heap.size)∧Sl w' (some ⟨bo,0,none⟩) n (evens b n)∧Sl w' (some ⟨bl,0,none⟩) n (odds b n))∨(¬ Zeros b n∧e=.panicked bad))
theorem segs_many (b:List UInt8) (n:Nat) (w:World) (hn:n<256) (h:16<n) :
 Calls Tryz.prog 205 #[.agg (rowV b),.int .i64 n] w fun e w'=>e=.panicked bad∧Below w.heap.size w w':=by
 have h1:¬ (n:Int)≤16:=by omega
 go_enter Tryz.func205,Tryz.ntmps205
 go_wp2_with fail
 refine (need_no _).mono ?_
 rintro e w' ⟨rfl,rfl⟩
 go_wp2_with fail
 exact ⟨rfl,rfl,below1 _ _⟩
structure Two (w W:World) (bo bl:Nat) (b:List UInt8) (n io il:Nat):Prop where
 below:Below w.heap.size w W
 box:Blk W w.heap.size 272 (rowV b)
 lo:w.heap.size<bo
 ll:w.heap.size<bl
 ho:bo<W.heap.size
 hl:bl<W.heap.size
 ne:bo≠bl
 co:∀ j,j<n→W.cell? ⟨bo,j,none⟩=some (.int .i64 (if j<io then ((byteAt b (2*j):Nat):Int) else 0))
 cl:∀ j,j<n→W.cell? ⟨bl,j,none⟩=some (.int .i64 (if j<il then ((byteAt b (2*j+1):Nat):Int) else 0))
 fo:∀ j,j<n→W.frozen? ⟨bo,j,none⟩=false
 fl:∀ j,j<n→W.frozen? ⟨bl,j,none⟩=false
section
variable {w W:World} {bo bl:Nat} {b:List UInt8} {n io il:Nat}
theorem Two.drew (h:Two w W bo bl b n io il):Two w W.drew bo bl b n io il :=
 have e:=bcell (below_drawn W)
 ⟨Wd.Ge.trans h.below (below_drawn W),h.box.later (below_drawn W),h.lo,h.ll,h.ho,h.hl,h.ne,fun j hj=>(e.1 _ _ h.ho).trans (h.co j hj),fun j hj=>(e.1 _ _ h.hl).trans (h.cl j hj),fun j hj=>(e.2 _ _ h.ho).trans (h.fo j hj),fun j hj=>(e.2 _ _ h.hl).trans (h.fl j hj)⟩
theorem far_set {g g' : Nat} {t:TypeId} {cs:Array Value} (h:Blk W g t cs) (hg:g'≠g) (j:Nat) (v:Value):Blk (W.setCell ⟨g',j,none⟩ v) g t cs :=
 (Below.heap_setCell W ⟨g',j,none⟩ v g (Ne.symm hg)).trans h
theorem Two.setO (h:Two w W bo bl b n io il) (hi:io<n) (x:Int) (hx:x=((byteAt b (2*io):Nat):Int)):Two w (W.setCell ⟨bo,io,none⟩ (.int .i64 x)) bo bl b n (io+1) il:=by
 refine ⟨h.below.setCell (Nat.le_of_lt h.lo) _,far_set h.box (by have:=h.lo; omega) _ _,h.lo,h.ll,by simpa using h.ho,by simpa using h.hl,h.ne,fun j hj=>?_,fun j hj=>?_,fun j hj=>by rw [World.frozen?_setCell]; exact h.fo j hj,fun j hj=>by rw [World.frozen?_setCell]; exact h.fl j hj⟩
 ·by_cases e:io=j
  ·subst e
   rw [World.cell?_setCell_same _ _ _ (h.co _ hj),if_pos (by omega),hx]
  ·rw [World.cell?_setCell_other _ _ _ _ (by intro hh; injection hh with _ hh; omega),h.co j hj]
   by_cases e2:j<io
   ·rw [if_pos e2,if_pos (by omega)]
   ·rw [if_neg e2,if_neg (by omega)]
 ·rw [World.cell?_setCell_other _ _ _ _ (by intro hh; injection hh with hh _; exact h.ne hh)]
  exact h.cl j hj
theorem Two.setL (h:Two w W bo bl b n io il) (hi:il<n) (x:Int) (hx:x=((byteAt b (2*il+1):Nat):Int)):Two w (W.setCell ⟨bl,il,none⟩ (.int .i64 x)) bo bl b n io (il+1):=by
 refine ⟨h.below.setCell (Nat.le_of_lt h.ll) _,far_set h.box (by have:=h.ll; omega) _ _,h.lo,h.ll,by simpa using h.ho,by simpa using h.hl,h.ne,fun j hj=>?_,fun j hj=>?_,fun j hj=>by rw [World.frozen?_setCell]; exact h.fo j hj,fun j hj=>by rw [World.frozen?_setCell]; exact h.fl j hj⟩
 ·rw [World.cell?_setCell_other _ _ _ _ (by intro hh; injection hh with hh _; exact h.ne hh.symm)]
  exact h.co j hj
 ·by_cases e:il=j
  ·subst e
   rw [World.cell?_setCell_same _ _ _ (h.cl _ hj),if_pos (by omega),hx]
  ·rw [World.cell?_setCell_other _ _ _ _ (by intro hh; injection hh with _ hh; omega),h.cl j hj]
   by_cases e2:j<il
   ·rw [if_pos e2,if_pos (by omega)]
   ·rw [if_neg e2,if_neg (by omega)]
end
theorem Two.sls {w W:World} {bo bl:Nat} {b:List UInt8} {n:Nat} (h:Two w W bo bl b n n n):Sl W (some ⟨bo,0,none⟩) n (evens b n)∧Sl W (some ⟨bl,0,none⟩) n (odds b n):=by
 refine ⟨⟨by simp [evens],fun _=>⟨bo,0,rfl,h.ho,fun j hj=>?_⟩⟩,⟨by simp [odds],fun _=>⟨bl,0,rfl,h.hl,fun j hj=>?_⟩⟩⟩
 ·rw [Nat.zero_add,h.co j hj,if_pos hj]
  simp only [evens,nth_map hj]
 ·rw [Nat.zero_add,h.cl j hj,if_pos hj]
  simp only [odds,nth_map hj]
def zI (n:Nat):Array Value:=madeCells #[.int .i64 0] n
theorem zI_at (n j:Nat) (h:j<n):(zI n)[j]? = some (.int .i64 0):=by
 unfold zI
 have:=toList_madeCells_one (.int .i64 0) n
 rw [← Array.getElem?_toList,this,List.getElem?_replicate,if_pos h]
theorem make_run (n:Nat) (hn:n≤16) (w:World):(Instr.makeSlice 40 (.int .i64 (n:Int)) (.int .i64 (n:Int))).run Tryz.prog w=.ok (.slice (some ⟨w.heap.size,0,none⟩) n n) (w.alloc (.cells (zI n) 3)) :=
 run_make_row' 40 3 (.int .i64 0) 8 Tryz.underlying40 (by kernel_rfl) rfl .i64 .i64 n (by omega) (by omega) w
theorem blk_frozen {w:World} {g:Nat} {t:TypeId} {cs:Array Value} (h:Blk w g t cs) (i:Nat):w.frozen? ⟨g,i,none⟩=false:=by
 unfold Blk at h
 simp [World.frozen?,h]
theorem two_of {w W:World} {bo bl:Nat} {b:List UInt8} {n:Nat} (hb:Below w.heap.size w W) (h0:Blk W w.heap.size 272 (rowV b)) (h1:Blk W bo 3 (zI n)) (h2:Blk W bl 3 (zI n)) (l1:w.heap.size<bo) (l2:w.heap.size<bl) (hne:bo≠bl):Two w W bo bl b n 0 0 :=
 ⟨hb,h0,l1,l2,h1.lt,h2.lt,hne,fun j hj=>by rw [h1.cell,zI_at n j hj,if_neg (by omega)],fun j hj=>by rw [h2.cell,zI_at n j hj,if_neg (by omega)],fun j _=>blk_frozen h1 j,fun j _=>blk_frozen h2 j⟩
theorem blk_drew {w:World} {g:Nat} {t:TypeId} {cs:Array Value} (h:Blk w g t cs):Blk w.drew g t cs:=h
theorem blk_new (w:World) (t:TypeId) (cs:Array Value) (n:Nat) (h:w.heap.size=n):Blk (w.alloc (.cells cs t)) n t cs:=by subst h; exact Blk.new w t cs
set_option maxHeartbeats 4000000 in
set_option maxRecDepth 100000 in
theorem segs_any (b:List UInt8) (n:Nat) (w:World) (hb:b.length=87) (hn:n≤16) :
 Calls Tryz.prog 205 #[.agg (rowV b),.int .i64 n] w (SegP b n w):=by
 have h1:(n:Int)≤16:=by omega
 have hmk:=make_run n hn
 have h0:(0:Int)≤(n:Int):=by omega
 go_enter Tryz.func205,Tryz.ntmps205
 go_wp2_with fail
 refine (need_yes _).mono ?_
 rintro e w' ⟨rfl,rfl⟩
 go_upto_region 2 with fail
 go_cut [4,5] (fun s4 s5 wx=>∃ bo bl:Nat,s4=.slice (some ⟨bo,0,none⟩) n n∧s5=.slice (some ⟨bl,0,none⟩) n n∧Hid (Two w wx bo bl b n 0 0))
 case first =>
  go_region
  all_goals
   go_wp2_with fail
   go_meet
  all_goals
   have z1:(w.alloc (.cells (rowV b) 272)).heap.size=w.heap.size+1:=by simp
   have z2:((w.alloc (.cells (rowV b) 272)).alloc (.cells (zI n) 3)).heap.size=w.heap.size+1+1:=by simp
   have k0:=((Blk.new w 272 (rowV b)).later (below1 _ (.cells (zI n) 3))).later (below1 _ (.cells (zI n) 3))
   have k1:=(blk_new (w.alloc (.cells (rowV b) 272)) 3 (zI n) _ z1).later (below1 _ (.cells (zI n) 3))
   have k2:=blk_new ((w.alloc (.cells (rowV b) 272)).alloc (.cells (zI n) 3)) 3 (zI n) _ z2
   have kb:Below w.heap.size w (((w.alloc (.cells (rowV b) 272)).alloc (.cells (zI n) 3)).alloc (.cells (zI n) 3)).drew:=Wd.Ge.trans (Wd.Ge.trans (Wd.Ge.trans (below1 _ _) (below1 _ _)) (below1 _ _)) (below_drawn _)
   first
    | exact ⟨w.heap.size+1,w.heap.size+1+1,rfl,rfl,Lib.hid (two_of kb (blk_drew k0) (blk_drew k1) (blk_drew k2) (by omega) (by omega) (by omega))⟩
    | exact ⟨w.heap.size+1+1,w.heap.size+1,rfl,rfl,Lib.hid (two_of kb (blk_drew k0) (blk_drew k2) (blk_drew k1) (by omega) (by omega) (by omega))⟩
 case rest =>
  obtain ⟨bo,bl,rfl,rfl,T⟩:=hcut
  clear hmk
  go_wp2_with fail
  go_loopg [17] 16 (fun gk s17 wr=>∃ i:Nat,i≤n∧gk=16-i∧s17=.int .i64 i∧Hid (Two w wr bo bl b n i i))
  case atStart=>exact ⟨0,by omega,rfl,rfl,T⟩
  case round =>
   obtain ⟨i,hi,hgk,rfl,T⟩:=hrel
   have HG:=Lib.hid hgk
   clear hgk
   by_cases hlt:i<n
   ·have hlti:(i:Int)<(n:Int):=by omega
    have T2:=T
    have hne1:¬ bo=bl:=T.out.ne
    have hne2:¬ bl=bo:=fun h=>hne1 h.symm
    obtain ⟨x,hx⟩:∃ x:Nat,Hid (byteAt b (2*i)=x):=⟨_,rfl⟩
    obtain ⟨y,hy⟩:∃ y:Nat,Hid (byteAt b (2*i+1)=y):=⟨_,rfl⟩
    have hx1:x<256:=by rw [← hx.out]; exact byteAt_lt _ _
    have hy1:y<256:=by rw [← hy.out]; exact byteAt_lt _ _
    have bx:=T2.out.box.cell (2*i)
    rw [rowV_at b _ (by omega),hx.out] at bx
    have by_:=T2.out.box.cell (2*i+1)
    rw [rowV_at b _ (by omega),hy.out] at by_
    have c1:=T2.out.co i hlt
    have c2:=T2.out.cl i hlt
    have f1:=T2.out.fo i hlt
    have f2:=T2.out.fl i hlt
    have w1:IntKind.i64.wrap (2*(i:Int))=2*(i:Int):=IntWalk.i64_in _ (by omega)
    have w2:IntKind.i64.wrap (2*(i:Int)+1)=2*(i:Int)+1:=IntWalk.i64_in _ (by omega)
    have t1:(2*(i:Int)).toNat=2*i:=by omega
    have t2:(2*(i:Int)+1).toNat=2*i+1:=by omega
    have p1:0≤2*(i:Int):=by omega
    have p2:0≤2*(i:Int)+1:=by omega
    have p3:2*(i:Int)<87:=by omega
    have p4:2*(i:Int)+1<87:=by omega
    go_wp2_with fail
    go_region
    all_goals
     clear bx by_ c1 c2 f1 f2 w1 w2 t1 t2 p1 p2 p3 p4
     go_wp2_with fail
     go_roundg (16-(i+1))
     case measure=>have:=HG.out; omega
     case rel =>
      refine ⟨i+1,by omega,rfl,by go_num,Lib.hid ?_⟩
      first
       | exact ((T.out.setO hlt _ (by rw [hx.out])).setL hlt _ (by rw [hy.out])).drew
       | exact ((T.out.setL hlt _ (by rw [hy.out])).setO hlt _ (by rw [hx.out])).drew
   ·obtain rfl:i=n:=by omega
    have hlti:¬ (i:Int)<(i:Int):=by omega
    have w1:IntKind.i64.wrap (2*(i:Int))=2*(i:Int):=IntWalk.i64_in _ (by omega)
    have t1:(2*(i:Int)).toNat=2*i:=by omega
    have p1:0≤2*(i:Int):=by omega
    have p3:2*(i:Int)≤87:=by omega
    go_wp2_with fail
    obtain ⟨r,HR⟩:∃ r,Hid (87-2*i=r):=⟨_,rfl⟩
    obtain ⟨d,HD⟩:∃ d,Hid (2*i=d):=⟨_,rfl⟩
    have hr87:r≤87:=by rw [← HR.out]; omega
    rw [HR.out,HD.out]
    clear w1 t1 p1 p3 hlti hlt
    go_loopg [42] 87 (fun gk s42 wx=>∃ j:Nat,j≤r∧gk=87-j∧s42=.int .i64 j∧wr=wx∧Hid (∀ t,t<j→byteAt b (d+t)=0))
    case atStart=>exact ⟨0,by omega,rfl,rfl,rfl,Lib.hid (fun t ht=>by omega)⟩
    case round =>
     obtain ⟨j,hj,hgk,rfl,rfl,Z⟩:=hrel
     have HG2:=Lib.hid hgk
     clear hgk
     by_cases hjr:j<r
     ·have hjri:(j:Int)<(r:Int):=by omega
      have c:=T.out.box.cell (d+j)
      rw [rowV_at b _ (by rw [hb]; have:=HR.out; have:=HD.out; omega)] at c
      cases hz:byteAt b (d+j) with
      | zero =>
        rw [hz] at c
        have q:(((0:Nat):Int) == 0)=true:=rfl
        go_wp2_with fail
        refine (need_yes _).mono ?_
        rintro e w' ⟨rfl,rfl⟩
        go_wp2_with fail
        go_roundg (87-(j+1))
        case measure=>have:=HG2.out; omega
        case rel=>exact ⟨j+1,by omega,rfl,by go_num,rfl,Lib.hid (fun t ht=>by
         by_cases e:t=j
         ·subst e; exact hz
         ·exact Z.out t (by omega))⟩
      | succ z =>
        have ZN:Hid (¬ Zeros b i):=Lib.hid (fun h=>by
         have:=h (d+j) (by have:=HD.out; omega) (by have:=HR.out; have:=HD.out; omega)
         omega)
        obtain ⟨y,hy⟩:∃ y:Nat,z+1=y:=⟨_,rfl⟩
        rw [hz,hy] at c
        have q:((y:Int) == 0)=false:=by simp; omega
        clear hz hy
        go_wp2_with fail
        refine (need_no _).mono ?_
        rintro e w' ⟨rfl,rfl⟩
        go_wp2_with fail
        exact ⟨rfl,T.out.below,.inr ⟨ZN.out,rfl⟩⟩
     ·obtain rfl:j=r:=by omega
      have hjri:¬ (j:Int)<(j:Int):=by omega
      have ZY:Hid (Zeros b i):=Lib.hid (fun t h1 h2=>by
       have:=Z.out (t-d) (by have:=HR.out; have:=HD.out; omega)
       rw [show d+(t-d)=t by have:=HD.out; omega] at this
       exact this)
      clear hjr
      go_wp2_with fail
      go_ret2
      exact ⟨T.out.below,.inl ⟨ZY.out,bo,bl,rfl,⟨T.out.lo,T.out.ho,T.out.ll,T.out.hl⟩,T.out.sls⟩⟩
open Go.RowKit Go.Lib Wd Cr
set_option linter.unusedVariables false
theorem len8 {l:List UInt8} (h:l.length=8):∃ a b c d e f g i,l=[a,b,c,d,e,f,g,i]:=by
 match l,h with
 | [a,b,c,d,e,f,g,i],_=>exact ⟨a,b,c,d,e,f,g,i,rfl⟩
theorem u8_iff (a b:UInt8):((a.toNat:Int)=(b.toNat:Int))=(a=b):=by
 rw [← UInt8.toNat_inj]
 exact propext ⟨fun h=>by omega,fun h=>by omega⟩
theorem eql8 (a b:List UInt8) (ha:a.length=8) (hb:b.length=8) (w:World):(binOp BinOp.eql 269 (.agg (rowV a)) (.agg (rowV b))).run Tryz.prog w=.ok (.bool (decide (a=b))) w:=by
 obtain ⟨a0,a1,a2,a3,a4,a5,a6,a7,rfl⟩:=len8 ha
 obtain ⟨b0,b1,b2,b3,b4,b5,b6,b7,rfl⟩:=len8 hb
 have u3:=Tryz.underlying5
 have a3':=Tryz.isAgg5
 have z3:=Tryz.sizeOf5
 simp [rowV,byteCells,go_sem]
 rw [show (10000:Nat)=9999+1 from rfl,Op.equalIn]
 simp only [Sem.run_bind,run_underlying Tryz.underlying269,Result.andThen_ok]
 simp only [Std.Legacy.Range.forIn_eq_forIn_range',Std.Legacy.Range.size,Nat.sub_zero,Nat.add_sub_cancel,Nat.div_one,List.range'_succ,List.range'_zero,List.forIn_cons,List.forIn_nil]
 go_simp
 simp only [u8_iff]
 rcases Decidable.em (a0=b0) with h0|h0
 case inr=>simp [h0]
 rcases Decidable.em (a1=b1) with h1|h1
 case inr=>simp [h1]
 rcases Decidable.em (a2=b2) with h2|h2
 case inr=>simp [h2]
 rcases Decidable.em (a3=b3) with h3|h3
 case inr=>simp [h3]
 rcases Decidable.em (a4=b4) with h4|h4
 case inr=>simp [h4]
 rcases Decidable.em (a5=b5) with h5|h5
 case inr=>simp [h5]
 rcases Decidable.em (a6=b6) with h6|h6
 case inr=>simp [h6]
 rcases Decidable.em (a7=b7) with h7|h7
 case inr=>simp [h7]
 simp [h0,h1,h2,h3,h4,h5,h6,h7]
theorem rowB_at (l:List UInt8) (i:Nat) (hl:l.length=128) (hi:i<128):(rowB l 128)[i]? = some (.int .u8 (byteAt l i:Nat)):=by
 unfold rowB
 rw [List.take_of_length_le (by omega),Nat.sub_self,List.replicate_zero,List.append_nil]
 simp [byteCells,byteAt,List.getElem?_eq_getElem (show i<l.length by omega)]
def part (l:List UInt8) (off n:Nat):List UInt8:=(l.drop off).take n
theorem part_len (l:List UInt8) (off n:Nat) (hl:l.length=128) (h:off+n≤128):(part l off n).length=n:=by
 unfold part; rw [List.length_take,List.length_drop]; omega
theorem part_at (l:List UInt8) (off n i:Nat) (h:i<n):byteAt (part l off n) i=byteAt l (off+i):=by
 unfold part; rw [byteAt_take _ _ _ h,byteAt_drop]
theorem range_part {w:World} {g:Nat} {l:List UInt8} (hg:Blk w g 274 (rowB l 128)) (hl:l.length=128) (off n:Nat) (h:off+n≤128):w.rangeAt g off (byteCells (part l off n)):=by
 refine hg.range off _ (fun j v hv=>?_)
 have hj:j<n:=by
  have:=(List.getElem?_eq_some_iff.1 hv).1
  rw [byteCells_length,part_len l off n hl h] at this
  exact this
 rw [rowB_at l _ hl (by omega),← part_at l off n j hj]
 have:(rowV (part l off n))[j]? = some v:=by unfold rowV; simpa using hv
 rw [rowV_at _ _ (by rw [part_len l off n hl h]; exact hj)] at this
 exact this
theorem info8:(Tryz.prog.info? 269).map (·.size)=some 8:=by kernel_rfl
theorem info87:(Tryz.prog.info? 272).map (·.size)=some 87:=by kernel_rfl
section
variable {ops:Array Oper} {rest:List Oper} {o:Oper} {a:Act} {w:World} {Q:Exit→Act→World→Prop}
theorem load_8 (hgd:o.guard=none) (x:Operand) (ho:o.op=.load 269 x) (g off:Nat) (hx:a.eval x=.pointer (some ⟨g,off,none⟩)) (l:List UInt8) (hl:l.length=128) (hoff:off+8≤128) (hg:Blk w g 274 (rowB l 128))
 (h:wpList Tryz.prog ops Q rest (a.put o.dst (.agg (rowV (part l off 8)))) w):wpList Tryz.prog ops Q (o :: rest) a w :=
 wpList_load_mid hgd _ x ho g off hx (byteCells (part l off 8)) _ (range_part hg hl off 8 hoff) Tryz.underlying269 rfl (by rw [byteCells_length,part_len l off 8 hl hoff]; exact info8) h
theorem load_87 (hgd:o.guard=none) (x:Operand) (ho:o.op=.load 272 x) (g off:Nat) (hx:a.eval x=.pointer (some ⟨g,off,none⟩)) (l:List UInt8) (hl:l.length=128) (hoff:off+87≤128) (hg:Blk w g 274 (rowB l 128))
 (h:wpList Tryz.prog ops Q rest (a.put o.dst (.agg (rowV (part l off 87)))) w):wpList Tryz.prog ops Q (o :: rest) a w :=
 wpList_load_mid hgd _ x ho g off hx (byteCells (part l off 87)) _ (range_part hg hl off 87 hoff) Tryz.underlying272 rfl (by rw [byteCells_length,part_len l off 87 hl hoff]; exact info87) h
end
theorem conv_part {w:World} {g:Nat} {l:List UInt8} (hg:Blk w g 274 (rowB l 128)) (hl:l.length=128) (off n:Nat) (h:off+n≤128) (X:ByteArray) (hX:X.data.toList=part l off n) :
 (convert 115 9 (.slice (some ⟨g,off,none⟩) n n)).run Tryz.prog w=.ok (.string X) w:=by
 have:=run_convert_bytes_arg (P:=Tryz.prog) w 115 5 Tryz.underlying115 Tryz.underlying5 g off n n ((part l off n).map fun b=>((b.toNat:Nat):Int)) (by rw [List.length_map,part_len l off n hl h]) (fun i hi=>by
  rw [hg.cell,rowB_at l _ hl (by omega),← part_at l off n i hi]
  have hi2:i<(part l off n).length:=by rw [part_len l off n hl h]; exact hi
  simp [byteAt,List.getElem?_eq_getElem hi2]) 9 Tryz.underlying9
 rw [this]
 congr 2
 unfold strOfNums
 rw [List.map_map]
 have e:((part l off n).map ((fun x:Int=>UInt8.ofNat x.toNat) ∘ fun b:UInt8=>((b.toNat:Nat):Int)))=part l off n:=by
  conv=>rhs; rw [← List.map_id (part l off n)]
  apply List.map_congr_left
  intro b _
  simp
 rw [e,← hX]
def IsChk (W:World) (x:Value) (c:Chk):Prop:=∃ (A:Option Addr) (m p:Nat) (B:Option Addr) (k q:Nat),x=.agg #[.int .u64 c.g,.int .u32 c.e,.int .u64 c.l,.int .u64 c.v,.slice A m p,.slice B k q]∧Sl W A m c.o∧Sl W B k c.n
theorem IsChk.later {W W' : World} {x:Value} {c:Chk} (h:IsChk W x c) (hb:Below W.heap.size W W'):IsChk W' x c:=by
 obtain ⟨A,m,p,B,k,q,rfl,h1,h2⟩:=h
 exact ⟨A,m,p,B,k,q,rfl,h1.later hb,h2.later hb⟩
def csC (g e l v:Int) (A:Option Addr) (m p:Nat) (B:Option Addr) (k q:Nat):Array Value:=#[.int .u64 g,.int .u32 e,.int .u64 l,.int .u64 v,.slice A m p,.slice B k q]
theorem csC_one (g e l v:Int) (A:Option Addr) (m p:Nat) (B:Option Addr) (k q:Nat):(csC g e l v A m p B k q).all (·.oneCell')=true:=by simp [csC,Value.oneCell']
theorem info_c:(Tryz.prog.info? 42).map (·.size)=some 6:=by kernel_rfl
section
variable {ops:Array Oper} {rest:List Oper} {o:Oper} {a:Act} {w:World} {Q:Exit→Act→World→Prop}
theorem load_c (hgd:o.guard=none) (x:Operand) (ho:o.op=.load 42 x) (b:Nat) (hx:a.eval x=.pointer (some ⟨b,0,none⟩)) {g e l v:Int} {A:Option Addr} {m p:Nat} {B:Option Addr} {k q:Nat} {t:TypeId} (hg:Blk w b t (csC g e l v A m p B k q))
 (h:wpList Tryz.prog ops Q rest (a.put o.dst (.agg #[.int .u64 g,.int .u32 e,.int .u64 l,.int .u64 v,.slice A m p,.slice B k q])) w):wpList Tryz.prog ops Q (o :: rest) a w :=
 wpList_load_row hgd _ x ho b hx _ (csC g e l v A m p B k q) (0,0) _ hg Tryz.underlying42 rfl info_c h
theorem store_c (hgd:o.guard=none) (x y:Operand) (ho:o.op=.store 42 x y) (b:Nat) (hx:a.eval x=.pointer (some ⟨b,0,none⟩)) {g e l v:Int} {A:Option Addr} {m p:Nat} {B:Option Addr} {k q:Nat} (hy:a.eval y=.agg #[.int .u64 g,.int .u32 e,.int .u64 l,.int .u64 v,.slice A m p,.slice B k q]) {g0 e0 l0 v0:Int} {A0:Option Addr} {m0 p0:Nat} {B0:Option Addr} {k0 q0:Nat} {t:TypeId} (hg:Blk w b t (csC g0 e0 l0 v0 A0 m0 p0 B0 k0 q0))
 (h:wpList Tryz.prog ops Q rest (a.put o.dst undef) (w.setRow b (csC g e l v A m p B k q))):wpList Tryz.prog ops Q (o :: rest) a w :=
 wpList_store_row hgd _ x y ho b (csC g e l v A m p B k q) hx hy _ _ hg info_c rfl (csC_one g e l v A m p B k q) h
end
theorem res_c1 {fn:Func} {p' : Tmp} (h:fn.results=#[.cell p' 42]) (tmps:Array Value) (W:World) (b:Nat) {g e l v:Int} {A:Option Addr} {m p:Nat} {B:Option Addr} {k q:Nat} {t:TypeId} (hp:tmps.getD p' undef=.pointer (some ⟨b,0,none⟩)) (L:Blk W b t (csC g e l v A m p B k q)) :
 (results fn tmps).run Tryz.prog W=.ok (.agg #[.int .u64 g,.int .u32 e,.int .u64 l,.int .u64 v,.slice A m p,.slice B k q]) W :=
 results_cell_row h tmps W b t (csC g e l v A m p B k q) (0,0) _ hp L Tryz.underlying42 rfl info_c
theorem slot_is {xs:Array Value} {n:Nat} {v:Value} (h:xs.getD n undef=v):xs[n]?.getD undef=v:=by simpa using h
theorem arrF59 {cs:Array Value} (h:cs.size=59):∃ y:Nat→Value,(∀ i,cs.getD i undef=y i)∧cs=#[y 0,y 1,y 2,y 3,y 4,y 5,y 6,y 7,y 8,y 9,y 10,y 11,y 12,y 13,y 14,y 15,y 16,y 17,y 18,y 19,y 20,y 21,y 22,y 23,y 24,y 25,y 26,y 27,y 28,y 29,y 30,y 31,y 32,y 33,y 34,y 35,y 36,y 37,y 38,y 39,y 40,y 41,y 42,y 43,y 44,y 45,y 46,y 47,y 48,y 49,y 50,y 51,y 52,y 53,y 54,y 55,y 56,y 57,y 58]:=by
 refine ⟨fun i=>cs.getD i undef,fun _=>rfl,?_⟩
 have e:cs=((List.range 59).map fun i=>cs.getD i undef).toArray:=by
  apply Array.ext
  ·simp [h]
  ·intro i h1 h2
   simp [h1]
 exact e.trans rfl
structure RdC (w:World) (fb:Nat) (l:List UInt8) (W:World):Prop where
 b:Below w.heap.size w W
 z:Blk W w.heap.size 42 (csC 0 0 0 0 none 0 0 none 0 0)
 f:Blk W fb 274 (rowB l 128)
theorem RdC.later {w W W' : World} {fb:Nat} {l:List UInt8} (h:RdC w fb l W) (hb:Below W.heap.size W W'):RdC w fb l W' :=
 ⟨Wd.Ge.trans h.b hb,h.z.later hb,h.f.later hb⟩
def wl (vs:List (Option Value)):List (World→Value→Prop):=vs.map fun o _ u=>match o with|none=>True|some v=>u=v
theorem wl_any {vs:List (Option Value)} {j:Nat} {W W' : World} {u:Value} (h:Free.V (wl vs) j W u):Free.V (wl vs) j W' u:=by
 unfold Free.V wl at *
 simp only [List.getD_eq_getElem?_getD,List.getElem?_map] at *
 cases hv:vs[j]? with
 | none=>rw [hv] at h; exact trivial
 | some o=>rw [hv] at h; exact h
theorem cell_row_far (W:World) {b b' : Nat} (h:b≠b') (j:Nat) (ds:Array Value):(W.setRow b ds).cell? ⟨b',j,none⟩=W.cell? ⟨b',j,none⟩:=by
 simp only [World.cell?,World.setRow,Array.getElem?_modify,if_neg h]
theorem Sl.far {W:World} {bo n b:Nat} {o:List Int} (h:Sl W (some ⟨bo,0,none⟩) n o) (hb:b≠bo) (ds:Array Value):Sl (W.setRow b ds) (some ⟨bo,0,none⟩) n o:=by
 refine ⟨h.len,fun hn=>?_⟩
 obtain ⟨b',o',e,hlt,hc⟩:=h.cells hn
 injection e with e
 injection e with e1 e2
 subst e1 e2
 refine ⟨bo,0,rfl,by rw [row_size]; exact hlt,fun j hj=>?_⟩
 exact (cell_row_far W hb (0+j) ds).trans (hc j hj)
theorem Sl.farA {W:World} {A:Option Addr} {n b:Nat} {o:List Int} (h:Sl W A n o) (hb:∀ a,A=some a→b≠a.block) (ds:Array Value):Sl (W.setRow b ds) A n o:=by
 refine ⟨h.len,fun hn=>?_⟩
 obtain ⟨b',o',e,hlt,hc⟩:=h.cells hn
 refine ⟨b',o',e,by rw [row_size]; exact hlt,fun j hj=>?_⟩
 exact (cell_row_far W (hb _ e) (o' + j) ds).trans (hc j hj)
theorem Sl.setA {W:World} {A:Option Addr} {n b:Nat} {o:List Int} (h:Sl W A n o) (hb:∀ a,A=some a→b≠a.block) (i:Nat) (u:Value):Sl (W.setCell ⟨b,i,none⟩ u) A n o:=by
 refine ⟨h.len,fun hn=>?_⟩
 obtain ⟨b',o',e,hlt,hc⟩:=h.cells hn
 refine ⟨b',o',e,by simpa using hlt,fun j hj=>?_⟩
 rw [World.cell?_setCell_other _ _ _ _ (by intro hh; injection hh with hh _; exact hb _ e hh)]
 exact hc j hj
def NewChk (n:Nat) (W:World) (x:Value) (c:Chk):Prop:=∃ (A:Option Addr) (m p:Nat) (B:Option Addr) (k q:Nat),x=.agg #[.int .u64 c.g,.int .u32 c.e,.int .u64 c.l,.int .u64 c.v,.slice A m p,.slice B k q]∧Sl W A m c.o∧Sl W B k c.n∧(∀ a,A=some a→n≤a.block)∧(∀ a,B=some a→n≤a.block)
section
variable {n:Nat} {W W' : World} {x:Value} {c:Chk}
theorem NewChk.is (h:NewChk n W x c):IsChk W x c:=by
 obtain ⟨A,m,p,B,k,q,e,h1,h2,_⟩:=h
 exact ⟨A,m,p,B,k,q,e,h1,h2⟩
theorem NewChk.later (h:NewChk n W x c) (hb:Below W.heap.size W W'):NewChk n W' x c:=by
 obtain ⟨A,m,p,B,k,q,e,h1,h2,h3⟩:=h
 exact ⟨A,m,p,B,k,q,e,h1.later hb,h2.later hb,h3⟩
theorem NewChk.mono {n' : Nat} (h:NewChk n W x c) (hn:n'≤n):NewChk n' W x c:=by
 obtain ⟨A,m,p,B,k,q,e,h1,h2,h3,h4⟩:=h
 exact ⟨A,m,p,B,k,q,e,h1,h2,fun a ha=>Nat.le_trans hn (h3 a ha),fun a ha=>Nat.le_trans hn (h4 a ha)⟩
theorem NewChk.row (h:NewChk n W x c) {b:Nat} (hb:b<n) (ds:Array Value):NewChk n (W.setRow b ds) x c:=by
 obtain ⟨A,m,p,B,k,q,e,h1,h2,h3,h4⟩:=h
 exact ⟨A,m,p,B,k,q,e,h1.farA (fun a ha=>by have:=h3 a ha; omega) ds,h2.farA (fun a ha=>by have:=h4 a ha; omega) ds,h3,h4⟩
theorem NewChk.set (h:NewChk n W x c) {b:Nat} (hb:b<n) (i:Nat) (u:Value):NewChk n (W.setCell ⟨b,i,none⟩ u) x c:=by
 obtain ⟨A,m,p,B,k,q,e,h1,h2,h3,h4⟩:=h
 exact ⟨A,m,p,B,k,q,e,h1.setA (fun a ha=>by have:=h3 a ha; omega) i u,h2.setA (fun a ha=>by have:=h4 a ha; omega) i u,h3,h4⟩
end
theorem zero_new (n:Nat) (W:World):NewChk n W (.agg #[.int .u64 0,.int .u32 0,.int .u64 0,.int .u64 0,.slice none 0 0,.slice none 0 0]) zeroC:=⟨none,0,0,none,0,0,rfl,Sl.nil W,Sl.nil W,(fun _ h=>by cases h),(fun _ h=>by cases h)⟩
structure R5 (w:World) (fb H bo bl n:Nat) (l:List UInt8) (o nn:List Int) (vs:Array Value) (listed:Array Bool) (a:Act) (W:World):Prop where
 r:RdC w fb l W
 hH:H≤W.heap.size
 sa:Sl W (some ⟨bo,0,none⟩) n o
 sb:Sl W (some ⟨bl,0,none⟩) n nn
 ord:listed.getD 21 false=true→listed.getD 20 false=true
 blk:listed.getD 20 false=true→∃ b,a.tmps.getD 6 undef=.pointer (some ⟨b,0,none⟩)∧H≤b∧Blk W b 42 (if listed.getD 21 false=true then vs else csC 0 0 0 0 none 0 0 none 0 0)
section
variable {w:World} {fb H bo bl n:Nat} {l:List UInt8} {o nn:List Int} {vs:Array Value} {listed:Array Bool} {a:Act} {W W' : World}
theorem R5.step (h:R5 w fb H bo bl n l o nn vs listed a W) (i d:Nat) (v:Value) (hi:i≠20) (hi' : i≠21) (hd:d≠6) (hb:Below W.heap.size W W'):R5 w fb H bo bl n l o nn vs (listed.setIfInBounds i true) (a.put (some d) v) W':=by
 have e20:(listed.setIfInBounds i true).getD 20 false=listed.getD 20 false:=getD_set_ne false hi
 have e21:(listed.setIfInBounds i true).getD 21 false=listed.getD 21 false:=getD_set_ne false hi'
 refine ⟨h.r.later hb,Nat.le_trans h.hH hb.size,h.sa.later hb,h.sb.later hb,by rw [e20,e21]; exact h.ord,?_⟩
 rw [e20,e21]
 intro hl
 obtain ⟨b,h1,h2,h3⟩:=h.blk hl
 exact ⟨b,(Free.slot_ne v hd).trans h1,h2,h3.later hb⟩
theorem R5.alloc (h:R5 w fb H bo bl n l o nn vs listed a W) (hsz:listed.size=22) (ha:6<a.tmps.size) (hno:listed.getD 20 true=false):R5 w fb H bo bl n l o nn vs (listed.setIfInBounds 20 true) (a.put (some 6) (.pointer (some ⟨W.heap.size,0,none⟩))) (W.alloc (.cells (csC 0 0 0 0 none 0 0 none 0 0) 42)):=by
 have e21:(listed.setIfInBounds 20 true).getD 21 false=listed.getD 21 false:=getD_set_ne false (by omega)
 have e20:(listed.setIfInBounds 20 true).getD 20 false=true:=by simp [hsz]
 have f20:listed.getD 20 false=false:=by
  simp only [Array.getD_eq_getD_getElem?] at hno ⊢
  have:listed[20]? = some (listed[20]'(by omega)):=Array.getElem?_eq_getElem (by omega)
  rw [this] at hno ⊢
  exact hno
 have f21:¬ listed.getD 21 false=true:=fun hh=>by have:=h.ord hh; rw [f20] at this; exact absurd this (by decide)
 have hb:=below1 W (.cells (csC 0 0 0 0 none 0 0 none 0 0) 42)
 refine ⟨h.r.later hb,Nat.le_trans h.hH hb.size,h.sa.later hb,h.sb.later hb,fun _=>e20,fun _=>⟨W.heap.size,?_,h.hH,?_⟩⟩
 ·unfold Act.put
  simp [ha]
 ·rw [e21,if_neg f21]
  exact Blk.new _ _ _
theorem R5.store (h:R5 w fb H bo bl n l o nn vs listed a W) (hsz:listed.size=22) (hl:listed.getD 20 false=true) (q1:w.heap.size<H) (q2:fb<H) (q3:bo<H) (q4:bl<H) {b:Nat} (hs:a.tmps.getD 6 undef=.pointer (some ⟨b,0,none⟩)) :
 R5 w fb H bo bl n l o nn vs (listed.setIfInBounds 21 true) (a.put none undef) (W.setRow b vs):=by
 obtain ⟨b',h1,h2,h3⟩:=h.blk hl
 have eb:b' = b:=by rw [hs] at h1; injection h1 with h1; injection h1 with h1; injection h1 with h1; exact h1.symm
 subst eb
 have e21:(listed.setIfInBounds 21 true).getD 21 false=true:=by simp [hsz]
 have e20:(listed.setIfInBounds 21 true).getD 20 false=listed.getD 20 false:=getD_set_ne false (by omega)
 refine ⟨⟨below_row h.r.b (by omega) _,h.r.z.far (by omega) _,h.r.f.far (by omega) _⟩,by rw [row_size]; exact h.hH,h.sa.far (by omega) _,h.sb.far (by omega) _,fun _=>by rw [e20]; exact hl,fun _=>⟨b',hs,h2,?_⟩⟩
 rw [e21,if_pos rfl]
 exact h3.row _
end
theorem cut_eq (l:List UInt8) (h:byteAt l 28≤16) (g e a v:Int) (hg:((getN (part l 0 8):Nat):Int)=g) (he:((getN (part l 8 4):Nat):Int)=e) (ha:((getN (part l 12 8):Nat):Int)=a) (hv:((getN (part l 20 8):Nat):Int)=v) :
 cutC l=⟨g,e,a,v,evens (part l 29 87) (byteAt l 28),odds (part l 29 87) (byteAt l 28)⟩:=by
 unfold cutC
 have e1:evens (part l 29 87) (byteAt l 28)=(List.range (byteAt l 28)).map fun i=>((byteAt l (29+2*i):Nat):Int):=by
  unfold evens
  apply List.map_congr_left
  intro i hi
  rw [List.mem_range] at hi
  rw [part_at l 29 87 (2*i) (by omega)]
 have e2:odds (part l 29 87) (byteAt l 28)=(List.range (byteAt l 28)).map fun i=>((byteAt l (30+2*i):Nat):Int):=by
  unfold odds
  apply List.map_congr_left
  intro i hi
  rw [List.mem_range] at hi
  rw [part_at l 29 87 (2*i+1) (by omega),show 29+(2*i+1)=30+2*i by omega]
 rw [e1,e2,← hg,← he,← ha,← hv]
 rfl
def ReadP (s:ByteArray) (w:World) (e:Ending) (w' : World):Prop :=
 Below w.heap.size w w'∧((isSec s.data.toList=true∧∃ x,e=.returned x∧NewChk w.heap.size w' x (cutC s.data.toList))∨(isSec s.data.toList=false∧e=.panicked bad))
theorem read_not {s:ByteArray} {w w' : World} (hb:Below w.heap.size w w') (h:¬ Reads s.data.toList):ReadP s w (.panicked bad) w':=by
 refine ⟨hb,.inr ⟨?_,rfl⟩⟩
 cases hs:isSec s.data.toList
 ·rfl
 ·exact absurd (sec_reads hs) h
theorem get_is (s:ByteArray) (r:Int) (w:World) (hr:(getN s.data.toList:Int)=r) :
 Calls Tryz.prog 190 #[.string s] w fun e w'=>e=.returned (.int .u64 r)∧Below w.heap.size w w':=Wd.get_at s r w hr
set_option maxHeartbeats 8000000 in
set_option maxRecDepth 100000 in
theorem read_any (s:ByteArray) (w:World) (hsz:s.size≤maxLen):Calls Tryz.prog 184 #[.string s] w (ReadP s w):=by
 by_cases hs:s.size=128
 case neg =>
  have C:=Lib.hid (fun w=>cut_no s w hsz hs)
  have B0:=below1 w (.cells #[.int .u64 0,.int .u32 0,.int .u64 0,.int .u64 0,.slice none 0 0,.slice none 0 0] 42)
  have BB:=Lib.hid B0
  clear B0
  go_enter Tryz.func184,Tryz.ntmps184
  go_wp2_with fail
  refine (C.out _).mono ?_
  rintro e' w1 ⟨rfl,hb⟩
  go_wp2_with fail
  exact ⟨rfl,read_not (Wd.Ge.trans BB.out hb) (fun h=>hs (by rw [Go.Lib.size_eq]; exact h.len))⟩
 case pos =>
 obtain ⟨l,EL⟩:∃ l,Hid (s.data.toList=l):=⟨_,rfl⟩
 have HL:Hid (l.length=128):=Lib.hid (by rw [← EL.out,← Go.Lib.size_eq,hs])
 have C:=Lib.hid (fun w=>cut_yes s w hs)
 rw [EL.out] at C
 have Z0:Hid (Blk (w.alloc (.cells #[.int .u64 0,.int .u32 0,.int .u64 0,.int .u64 0,.slice none 0 0,.slice none 0 0] 42)) w.heap.size 42 (csC 0 0 0 0 none 0 0 none 0 0)):=Lib.hid (Blk.new w 42 _)
 have B0:=Lib.hid (below1 w (.cells #[.int .u64 0,.int .u32 0,.int .u64 0,.int .u64 0,.slice none 0 0,.slice none 0 0] 42))
 have hv:=zero_fields.1
 have hq8:=eql8 (part l 120 8) (part l 0 8) (part_len l 120 8 HL.out (by omega)) (part_len l 0 8 HL.out (by omega))
 obtain ⟨X,HX⟩:∃ X:ByteArray,Hid (X.data.toList=part l 116 4):=⟨⟨(part l 116 4).toArray⟩,Lib.hid (by simp)⟩
 obtain ⟨x,Hx⟩:∃ x:Int,Hid ((getN X.data.toList:Int)=x):=⟨_,rfl⟩
 obtain ⟨Y,HYe⟩:∃ Y:ByteArray,s.extract 0 116=Y:=⟨_,rfl⟩
 have HY:Hid (Y.data.toList=l.take 116):=Lib.hid (by rw [← HYe,← EL.out]; simp [ByteArray.data_extract,Array.toList_extract])
 have hYs:Y.size≤maxLen:=by rw [Go.Lib.size_eq,HY.out,List.length_take,HL.out]; unfold maxLen; omega
 obtain ⟨M,HM⟩:∃ M:Int,Hid (((Crc.more 0 Y.data.toList:Nat):Int)=M):=⟨_,rfl⟩
 have M0:0≤M:=by rw [← HM.out]; omega
 have M1:M<4294967296:=by
  have:=Crc.more_lt Y.data.toList (s:=0) (by omega)
  rw [← HM.out]; omega
 obtain ⟨b,hxM⟩:∃ b:Bool,(x == M)=b:=⟨_,rfl⟩
 go_enter Tryz.func184,Tryz.ntmps184
 go_wp2_with fail
 refine (C.out _).mono ?_
 rintro e' w1 ⟨rfl,hb⟩
 have Z1:=Z0.out.later hb
 have B1:=Wd.Ge.trans B0.out hb
 have F1:Blk (w1.alloc (.cells z128 274)) w1.heap.size 274 z128:=Blk.new w1 274 z128
 go_upto_region 2 with (with_reducible refine store_f rfl (.tmp 3) (.tmp 8) rfl w1.heap.size rfl l HL.out rfl F1 ?_; rw [World.setRow_alloc_new])
 have R:RdC w w1.heap.size l (w1.alloc (.cells (rowB l 128) 274)):=⟨Wd.Ge.trans B1 (below1 _ _),Z1.later (below1 _ _),Blk.new _ _ _⟩
 generalize w1.alloc (.cells (rowB l 128) 274)=w2 at *
 generalize w1.heap.size=fb at *
 clear Z0 B0 Z1 B1 F1 hb C hv
 have RR:=Lib.hid R
 have RF:=Lib.hid R.f
 clear R
 by_cases hends:part l 120 8=part l 0 8
 case neg =>
  rw [decide_eq_false hends] at hq8
  go_wp2_with (first
   | (with_reducible refine load_8 rfl (.tmp 9) rfl fb 120 rfl l HL.out (by omega) RF.out ?_)
   | (with_reducible refine load_8 rfl (.tmp 11) rfl fb 0 rfl l HL.out (by omega) RF.out ?_))
  refine (need_no _).mono ?_
  rintro e' w' ⟨rfl,rfl⟩
  go_wp2_with fail
  refine ⟨rfl,read_not RR.out.b (fun h=>hends ?_)⟩
  have:=h.ends
  rw [EL.out] at this
  unfold part
  rw [List.drop_zero,← this,List.take_of_length_le (by rw [List.length_drop,HL.out]; omega)]
 case pos =>
 rw [decide_eq_true hends] at hq8
 have HE:=Lib.hid hends
 clear hends
 go_wp2_with (first
  | (with_reducible refine load_8 rfl (.tmp 9) rfl fb 120 rfl l HL.out (by omega) RF.out ?_)
  | (with_reducible refine load_8 rfl (.tmp 11) rfl fb 0 rfl l HL.out (by omega) RF.out ?_))
 refine (need_yes _).mono ?_
 rintro e' w' ⟨rfl,rfl⟩
 clear hq8
 go_wp2_with fail
 refine Free.wp_free [(fun _ u=>u=.pointer (some ⟨fb,116,none⟩)),
  (fun _ u=>u=.slice (some ⟨fb,116,none⟩) 4 4),
  (fun _ u=>u=.string X),
  (fun _ u=>u=.int .u64 x),
  (fun _ u=>u=.string s),
  (fun _ u=>u=.string Y),
  (fun _ u=>u=.int .u32 M),
  (fun _ u=>u=.int .u64 M),
  (fun _ u=>u=.bool b),
  (fun _ _=>b=true)] (RdC w fb l) (fun u u'=>Below u.heap.size u u') (by kernel_rfl) (by kernel_rfl) (RR.out.later (below_drawn _)) (fun _ _ h hb=>h.later hb) (by simp) ?_ ?_
 ·refine ⟨?_,?_,?_,?_,?_,?_,?_,?_,?_,?_,trivial⟩
  ·intro listed A W hA hr K hK
   have e3:A.tmps[3]?.getD undef=.pointer (some ⟨fb,0,none⟩):=slot_is ((hA.kept 3 (Free.not_dst (by kernel_rfl))).trans rfl)
   simp [go_sem,e3]
   exact hK _ _ (Below.refl _ _) rfl
  ·intro listed A W hA hr K hK
   have e15:A.tmps[15]?.getD undef=.pointer (some ⟨fb,116,none⟩):=slot_is (hA.val 0 _ rfl (hr ⟨0,.data⟩ (by simp) rfl))
   simp [go_sem,e15]
   exact hK _ _ (Below.refl _ _) rfl
  ·intro listed A W hA hr K hK
   have e16:A.tmps[16]?.getD undef=.slice (some ⟨fb,116,none⟩) 4 4:=slot_is (hA.val 1 _ rfl (hr ⟨1,.data⟩ (by simp) rfl))
   have hcv:=conv_part hA.c.f HL.out 116 4 (by omega) X HX.out
   simp [go_sem,e16,hcv]
   exact hK _ _ (Below.refl _ _) rfl
  ·intro listed A W hA hr K hK
   have e17:A.tmps[17]?.getD undef=.string X:=slot_is (hA.val 2 _ rfl (hr ⟨2,.data⟩ (by simp) rfl))
   simp [go_sem,e17]
   refine (get_is X x _ Hx.out).mono ?_
   rintro e' w' ⟨rfl,hb⟩
   exact hK _ _ hb rfl
  ·intro listed A W hA hr K hK
   have e0:A.tmps[0]?.getD undef=.string s:=slot_is ((hA.kept 0 (Free.not_dst (by kernel_rfl))).trans rfl)
   simp [go_sem,e0]
   exact hK _ _ (Below.refl _ _) rfl
  ·intro listed A W hA hr K hK
   have e19:A.tmps[19]?.getD undef=.string s:=slot_is (hA.val 4 _ rfl (hr ⟨4,.data⟩ (by simp) rfl))
   simp [go_sem,e19,hs,HYe]
   exact hK _ _ (Below.refl _ _) rfl
  ·intro listed A W hA hr K hK
   have e20:A.tmps[20]?.getD undef=.string Y:=slot_is (hA.val 5 _ rfl (hr ⟨5,.data⟩ (by simp) rfl))
   simp [go_sem,e20]
   refine (sum_is Y M _ hYs HM.out).mono ?_
   rintro e' w' ⟨rfl,hb⟩
   exact hK _ _ hb rfl
  ·intro listed A W hA hr K hK
   have e21:A.tmps[21]?.getD undef=.int .u32 M:=slot_is (hA.val 6 _ rfl (hr ⟨6,.data⟩ (by simp) rfl))
   simp [go_sem,e21]
   refine hK _ _ (Below.refl _ _) (show Value.int .u64 _=.int .u64 M from Cr.val_int ?_)
   first|omega|(rw [IntKind.wrap_u64]; omega)
  ·intro listed A W hA hr K hK
   have e18:A.tmps[18]?.getD undef=.int .u64 x:=slot_is (hA.val 3 _ rfl (hr ⟨3,.data⟩ (by simp) rfl))
   have e22:A.tmps[22]?.getD undef=.int .u64 M:=slot_is (hA.val 7 _ rfl (hr ⟨7,.data⟩ (by simp) rfl))
   simp [go_sem,e18,e22,hxM]
   exact hK _ _ (Below.refl _ _) rfl
  ·intro listed A W hA hr K hK
   have e23:A.tmps[23]?.getD undef=.bool b:=slot_is (hA.val 8 _ rfl (hr ⟨8,.data⟩ (by simp) rfl))
   simp [go_sem,e23]
   cases b with
   | true =>
     refine (need_yes _).mono ?_
     rintro e' w' ⟨rfl,rfl⟩
     exact hK _ _ (Below.refl _ _) rfl
   | false =>
     refine (need_no _).mono ?_
     rintro e' w' ⟨rfl,rfl⟩
     refine ⟨hA.defers,read_not hA.c.b (fun h=>?_)⟩
     have h2:=h.sum
     rw [EL.out,show (l.drop 116).take 4=part l 116 4 from rfl,← HX.out,← HY.out] at h2
     have h3:x=M:=by rw [← Hx.out,← HM.out,h2]
     rw [h3] at hxM
     simp at hxM
 ·intro A W hA
  have hbt:b=true:=hA.val 9 _ rfl rfl
  subst hbt
  have s0:A.tmps.getD 0 undef=.string s:=(hA.kept 0 (Free.not_dst (by kernel_rfl))).trans rfl
  have s2:A.tmps.getD 2 undef=.pointer (some ⟨w.heap.size,0,none⟩):=(hA.kept 2 (Free.not_dst (by kernel_rfl))).trans rfl
  have s3:A.tmps.getD 3 undef=.pointer (some ⟨fb,0,none⟩):=(hA.kept 3 (Free.not_dst (by kernel_rfl))).trans rfl
  have hsz:=hA.slots
  have hde:=hA.defers
  have R:=Lib.hid hA.c
  clear hA RR RF w2
  obtain ⟨tm,de⟩:=A
  simp only at s0 s2 s3 hsz hde
  obtain ⟨y,hy,ee⟩:=arrF59 hsz
  have t0:y 0=.string s:=(hy _).symm.trans s0
  have t2:y 2=.pointer (some ⟨w.heap.size,0,none⟩):=(hy _).symm.trans s2
  have t3:y 3=.pointer (some ⟨fb,0,none⟩):=(hy _).symm.trans s3
  rw [t0,t2,t3] at ee
  clear hy s0 s2 s3 hsz t0 t2 t3
  subst ee hde
  have SUM:Hid (getN (part l 116 4)=Crc.more 0 (l.take 116)):=by
   refine Lib.hid ?_
   rw [← HX.out,← HY.out]
   have h1:=Hx.out
   have h2:=HM.out
   have h3:x=M:=by simpa using hxM
   omega
  clear HX HY Hx HM hxM M0 M1 hYs HYe
  obtain ⟨n,HN⟩:∃ n,Hid (byteAt l 28=n):=⟨_,rfl⟩
  have hn256:n<256:=by rw [← HN.out]; exact byteAt_lt _ _
  have hni:(n:Int)<256:=by omega
  have c28:=R.out.f.cell 28
  rw [rowB_at l 28 HL.out (by omega),HN.out] at c28
  have RF:=Lib.hid R.out.f
  by_cases hn:16<n
  case pos =>
   have C:=Lib.hid (fun w=>segs_many (part l 29 87) n w hn256 hn)
   go_wp2_with (first
    | (with_reducible refine load_87 rfl (.tmp 26) rfl fb 29 rfl l HL.out (by omega) RF.out ?_))
   refine (C.out _).mono ?_
   rintro e' w3 ⟨rfl,hb⟩
   go_wp2_with fail
   refine ⟨rfl,read_not (Wd.Ge.trans R.out.b hb) (fun h=>?_)⟩
   have:=h.cnt
   rw [EL.out,HN.out] at this
   omega
  case neg =>
  have hn16:n≤16:=by omega
  have C:=Lib.hid (fun w=>segs_any (part l 29 87) n w (part_len l 29 87 HL.out (by omega)) hn16)
  go_wp2_with (first
   | (with_reducible refine load_87 rfl (.tmp 26) rfl fb 29 rfl l HL.out (by omega) RF.out ?_))
  refine (C.out _).mono ?_
  rintro e' w3 ⟨hb,⟨hz,bo,bl,rfl,⟨k1,k2,k3,k4⟩,sa,sb⟩ | ⟨hz,rfl⟩⟩
  case inr =>
   go_wp2_with fail
   refine ⟨rfl,read_not (Wd.Ge.trans R.out.b hb) (fun h=>hz (fun i h1 h2=>?_))⟩
   rw [part_at l 29 87 i h2]
   have:=h.zero (29+i)
   rw [EL.out,HN.out] at this
   exact this (by omega) (by omega)
  case inl =>
  have zlt:=R.out.z.lt
  have R3:=Lib.hid (R.out.later hb)
  have HZ:=Lib.hid hz
  have SA:=Lib.hid sa
  have SB:=Lib.hid sb
  clear R hz hb C c28 RF sa sb
  obtain ⟨G1,HG1⟩:∃ X:ByteArray,Hid (X.data.toList=part l 0 8):=⟨⟨(part l 0 8).toArray⟩,Lib.hid (by simp)⟩
  obtain ⟨G2,HG2⟩:∃ X:ByteArray,Hid (X.data.toList=part l 8 4):=⟨⟨(part l 8 4).toArray⟩,Lib.hid (by simp)⟩
  obtain ⟨G3,HG3⟩:∃ X:ByteArray,Hid (X.data.toList=part l 12 8):=⟨⟨(part l 12 8).toArray⟩,Lib.hid (by simp)⟩
  obtain ⟨G4,HG4⟩:∃ X:ByteArray,Hid (X.data.toList=part l 20 8):=⟨⟨(part l 20 8).toArray⟩,Lib.hid (by simp)⟩
  obtain ⟨g,Hg⟩:∃ g:Int,Hid ((getN G1.data.toList:Int)=g):=⟨_,rfl⟩
  obtain ⟨e,He⟩:∃ g:Int,Hid ((getN G2.data.toList:Int)=g):=⟨_,rfl⟩
  obtain ⟨a,Ha⟩:∃ g:Int,Hid ((getN G3.data.toList:Int)=g):=⟨_,rfl⟩
  obtain ⟨v,Hv⟩:∃ g:Int,Hid ((getN G4.data.toList:Int)=g):=⟨_,rfl⟩
  have e0:0≤e:=by rw [← He.out]; omega
  have e1:e<4294967296:=by
   have:=getN_lt_of (part l 8 4) 4 4294967296 (by rw [part_len l 8 4 HL.out (by omega)]; omega) (by omega) (by decide)
   rw [← He.out,HG2.out]; omega
  have CE:Hid (cutC l=⟨g,e,a,v,evens (part l 29 87) n,odds (part l 29 87) n⟩):=by
   have:=cut_eq l (by rw [HN.out]; omega) g e a v (by rw [← Hg.out,HG1.out]) (by rw [← He.out,HG2.out]) (by rw [← Ha.out,HG3.out]) (by rw [← Hv.out,HG4.out])
   rw [HN.out] at this
   exact Lib.hid this
  have hv26:=Tryz.zeroValue42
  obtain ⟨H,hH⟩:∃ H,w3.heap.size=H:=⟨_,rfl⟩
  have q1:w.heap.size<H:=by rw [← hH]; exact R3.out.z.lt
  have q2:fb<H:=by rw [← hH]; exact R3.out.f.lt
  have q3:bo<H:=by omega
  have q4:bl<H:=by omega
  have q5:w.heap.size<bo:=by omega
  have q6:w.heap.size<bl:=by omega
  have HH:=Lib.hid hH
  clear hH k1 k2 k3 k4 zlt
  go_wp2_with fail
  refine FreeC.wp_freeC (wl [some (.pointer (some ⟨fb,0,none⟩)),
  some (.slice (some ⟨fb,0,none⟩) 8 8),
  some (.string G1),
  some (.int .u64 g),
  some (.pointer (some ⟨fb,8,none⟩)),
  some (.slice (some ⟨fb,8,none⟩) 4 4),
  some (.string G2),
  some (.int .u64 e),
  some (.int .u32 e),
  some (.pointer (some ⟨fb,12,none⟩)),
  some (.slice (some ⟨fb,12,none⟩) 8 8),
  some (.string G3),
  some (.int .u64 a),
  some (.pointer (some ⟨fb,20,none⟩)),
  some (.slice (some ⟨fb,20,none⟩) 8 8),
  some (.string G4),
  some (.int .u64 v),
  some (.slice (some ⟨bo,0,none⟩) n n),
  some (.slice (some ⟨bl,0,none⟩) n n),
  some (.agg #[.int .u64 g,.int .u32 e,.int .u64 a,.int .u64 v,.slice (some ⟨bo,0,none⟩) n n,.slice (some ⟨bl,0,none⟩) n n]),
  none,
  none]) (R5 w fb H bo bl n l (evens (part l 29 87) n) (odds (part l 29 87) n) (csC g e a v (some ⟨bo,0,none⟩) n n (some ⟨bl,0,none⟩) n n)) (by kernel_rfl) (by kernel_rfl) ⟨R3.out.later (below_drawn _),by rw [← HH.out]; exact Nat.le_refl _,SA.out.later (below_drawn _),SB.out.later (below_drawn _),fun h=>by simp at h,fun h=>by simp at h⟩ ?_ ?_
  ·refine ⟨?_,?_,?_,?_,?_,?_,?_,?_,?_,?_,?_,?_,?_,?_,?_,?_,?_,?_,?_,?_,?_,?_,trivial⟩
   ·intro listed A W hA hno hr K hK
    have e3:A.tmps[3]?.getD undef=.pointer (some ⟨fb,0,none⟩):=slot_is ((hA.kept 3 (Free.not_dst (by kernel_rfl))).trans rfl)
    simp [go_sem,e3]
    exact hK _ _ (hA.c.step _ _ _ (by decide) (by decide) (by decide) (Below.refl _ _)) rfl (fun _ _ _ _ h=>h)
   ·intro listed A W hA hno hr K hK
    have e35:A.tmps[35]?.getD undef=.pointer (some ⟨fb,0,none⟩):=slot_is (hA.val 0 _ rfl (hr ⟨0,.data⟩ (by simp) rfl))
    simp [go_sem,e35]
    exact hK _ _ (hA.c.step _ _ _ (by decide) (by decide) (by decide) (Below.refl _ _)) rfl (fun _ _ _ _ h=>h)
   ·intro listed A W hA hno hr K hK
    have e36:A.tmps[36]?.getD undef=.slice (some ⟨fb,0,none⟩) 8 8:=slot_is (hA.val 1 _ rfl (hr ⟨1,.data⟩ (by simp) rfl))
    have hcv:=conv_part hA.c.r.f HL.out 0 8 (by omega) G1 HG1.out
    simp [go_sem,e36,hcv]
    exact hK _ _ (hA.c.step _ _ _ (by decide) (by decide) (by decide) (Below.refl _ _)) rfl (fun _ _ _ _ h=>h)
   ·intro listed A W hA hno hr K hK
    have e37:A.tmps[37]?.getD undef=.string G1:=slot_is (hA.val 2 _ rfl (hr ⟨2,.data⟩ (by simp) rfl))
    simp [go_sem,e37]
    refine (get_is G1 g _ Hg.out).mono ?_
    rintro e' w' ⟨rfl,hb⟩
    exact hK _ _ (hA.c.step _ _ _ (by decide) (by decide) (by decide) hb) rfl (fun _ _ _ _ h=>wl_any h)
   ·intro listed A W hA hno hr K hK
    have e3:A.tmps[3]?.getD undef=.pointer (some ⟨fb,0,none⟩):=slot_is ((hA.kept 3 (Free.not_dst (by kernel_rfl))).trans rfl)
    simp [go_sem,e3]
    exact hK _ _ (hA.c.step _ _ _ (by decide) (by decide) (by decide) (Below.refl _ _)) rfl (fun _ _ _ _ h=>h)
   ·intro listed A W hA hno hr K hK
    have e39:A.tmps[39]?.getD undef=.pointer (some ⟨fb,8,none⟩):=slot_is (hA.val 4 _ rfl (hr ⟨4,.data⟩ (by simp) rfl))
    simp [go_sem,e39]
    exact hK _ _ (hA.c.step _ _ _ (by decide) (by decide) (by decide) (Below.refl _ _)) rfl (fun _ _ _ _ h=>h)
   ·intro listed A W hA hno hr K hK
    have e40:A.tmps[40]?.getD undef=.slice (some ⟨fb,8,none⟩) 4 4:=slot_is (hA.val 5 _ rfl (hr ⟨5,.data⟩ (by simp) rfl))
    have hcv:=conv_part hA.c.r.f HL.out 8 4 (by omega) G2 HG2.out
    simp [go_sem,e40,hcv]
    exact hK _ _ (hA.c.step _ _ _ (by decide) (by decide) (by decide) (Below.refl _ _)) rfl (fun _ _ _ _ h=>h)
   ·intro listed A W hA hno hr K hK
    have e41:A.tmps[41]?.getD undef=.string G2:=slot_is (hA.val 6 _ rfl (hr ⟨6,.data⟩ (by simp) rfl))
    simp [go_sem,e41]
    refine (get_is G2 e _ He.out).mono ?_
    rintro e' w' ⟨rfl,hb⟩
    exact hK _ _ (hA.c.step _ _ _ (by decide) (by decide) (by decide) hb) rfl (fun _ _ _ _ h=>wl_any h)
   ·intro listed A W hA hno hr K hK
    have e42:A.tmps[42]?.getD undef=.int .u64 e:=slot_is (hA.val 7 _ rfl (hr ⟨7,.data⟩ (by simp) rfl))
    simp [go_sem,e42]
    refine hK _ _ (hA.c.step _ _ _ (by decide) (by decide) (by decide) (Below.refl _ _)) (show Value.int .u32 _=.int .u32 e from Cr.val_int ?_) (fun _ _ _ _ h=>h)
    first|omega|(rw [IntKind.wrap_u32]; omega)
   ·intro listed A W hA hno hr K hK
    have e3:A.tmps[3]?.getD undef=.pointer (some ⟨fb,0,none⟩):=slot_is ((hA.kept 3 (Free.not_dst (by kernel_rfl))).trans rfl)
    simp [go_sem,e3]
    exact hK _ _ (hA.c.step _ _ _ (by decide) (by decide) (by decide) (Below.refl _ _)) rfl (fun _ _ _ _ h=>h)
   ·intro listed A W hA hno hr K hK
    have e44:A.tmps[44]?.getD undef=.pointer (some ⟨fb,12,none⟩):=slot_is (hA.val 9 _ rfl (hr ⟨9,.data⟩ (by simp) rfl))
    simp [go_sem,e44]
    exact hK _ _ (hA.c.step _ _ _ (by decide) (by decide) (by decide) (Below.refl _ _)) rfl (fun _ _ _ _ h=>h)
   ·intro listed A W hA hno hr K hK
    have e45:A.tmps[45]?.getD undef=.slice (some ⟨fb,12,none⟩) 8 8:=slot_is (hA.val 10 _ rfl (hr ⟨10,.data⟩ (by simp) rfl))
    have hcv:=conv_part hA.c.r.f HL.out 12 8 (by omega) G3 HG3.out
    simp [go_sem,e45,hcv]
    exact hK _ _ (hA.c.step _ _ _ (by decide) (by decide) (by decide) (Below.refl _ _)) rfl (fun _ _ _ _ h=>h)
   ·intro listed A W hA hno hr K hK
    have e46:A.tmps[46]?.getD undef=.string G3:=slot_is (hA.val 11 _ rfl (hr ⟨11,.data⟩ (by simp) rfl))
    simp [go_sem,e46]
    refine (get_is G3 a _ Ha.out).mono ?_
    rintro e' w' ⟨rfl,hb⟩
    exact hK _ _ (hA.c.step _ _ _ (by decide) (by decide) (by decide) hb) rfl (fun _ _ _ _ h=>wl_any h)
   ·intro listed A W hA hno hr K hK
    have e3:A.tmps[3]?.getD undef=.pointer (some ⟨fb,0,none⟩):=slot_is ((hA.kept 3 (Free.not_dst (by kernel_rfl))).trans rfl)
    simp [go_sem,e3]
    exact hK _ _ (hA.c.step _ _ _ (by decide) (by decide) (by decide) (Below.refl _ _)) rfl (fun _ _ _ _ h=>h)
   ·intro listed A W hA hno hr K hK
    have e48:A.tmps[48]?.getD undef=.pointer (some ⟨fb,20,none⟩):=slot_is (hA.val 13 _ rfl (hr ⟨13,.data⟩ (by simp) rfl))
    simp [go_sem,e48]
    exact hK _ _ (hA.c.step _ _ _ (by decide) (by decide) (by decide) (Below.refl _ _)) rfl (fun _ _ _ _ h=>h)
   ·intro listed A W hA hno hr K hK
    have e49:A.tmps[49]?.getD undef=.slice (some ⟨fb,20,none⟩) 8 8:=slot_is (hA.val 14 _ rfl (hr ⟨14,.data⟩ (by simp) rfl))
    have hcv:=conv_part hA.c.r.f HL.out 20 8 (by omega) G4 HG4.out
    simp [go_sem,e49,hcv]
    exact hK _ _ (hA.c.step _ _ _ (by decide) (by decide) (by decide) (Below.refl _ _)) rfl (fun _ _ _ _ h=>h)
   ·intro listed A W hA hno hr K hK
    have e50:A.tmps[50]?.getD undef=.string G4:=slot_is (hA.val 15 _ rfl (hr ⟨15,.data⟩ (by simp) rfl))
    simp [go_sem,e50]
    refine (get_is G4 v _ Hv.out).mono ?_
    rintro e' w' ⟨rfl,hb⟩
    exact hK _ _ (hA.c.step _ _ _ (by decide) (by decide) (by decide) hb) rfl (fun _ _ _ _ h=>wl_any h)
   ·intro listed A W hA hno hr K hK
    have e4:A.tmps[4]?.getD undef=.slice (some ⟨bo,0,none⟩) n n:=slot_is ((hA.kept 4 (Free.not_dst (by kernel_rfl))).trans rfl)
    simp [go_sem,e4]
    exact hK _ _ (hA.c.step _ _ _ (by decide) (by decide) (by decide) (Below.refl _ _)) rfl (fun _ _ _ _ h=>h)
   ·intro listed A W hA hno hr K hK
    have e5:A.tmps[5]?.getD undef=.slice (some ⟨bl,0,none⟩) n n:=slot_is ((hA.kept 5 (Free.not_dst (by kernel_rfl))).trans rfl)
    simp [go_sem,e5]
    exact hK _ _ (hA.c.step _ _ _ (by decide) (by decide) (by decide) (Below.refl _ _)) rfl (fun _ _ _ _ h=>h)
   ·intro listed A W hA hno hr K hK
    have e38:A.tmps[38]?.getD undef=.int .u64 g:=slot_is (hA.val 3 _ rfl (hr ⟨3,.data⟩ (by simp) rfl))
    have e43:A.tmps[43]?.getD undef=.int .u32 e:=slot_is (hA.val 8 _ rfl (hr ⟨8,.data⟩ (by simp) rfl))
    have e47:A.tmps[47]?.getD undef=.int .u64 a:=slot_is (hA.val 12 _ rfl (hr ⟨12,.data⟩ (by simp) rfl))
    have e51:A.tmps[51]?.getD undef=.int .u64 v:=slot_is (hA.val 16 _ rfl (hr ⟨16,.data⟩ (by simp) rfl))
    have e52:A.tmps[52]?.getD undef=.slice (some ⟨bo,0,none⟩) n n:=slot_is (hA.val 17 _ rfl (hr ⟨17,.data⟩ (by simp) rfl))
    have e53:A.tmps[53]?.getD undef=.slice (some ⟨bl,0,none⟩) n n:=slot_is (hA.val 18 _ rfl (hr ⟨18,.data⟩ (by simp) rfl))
    simp [go_sem,e38,e43,e47,e51,e52,e53]
    exact hK _ _ (hA.c.step _ _ _ (by decide) (by decide) (by decide) (Below.refl _ _)) rfl (fun _ _ _ _ h=>h)
   ·intro listed A W hA hno hr K hK
    have hsz:=hA.size
    simp at hsz
    have hts:A.tmps.size=59:=hA.slots
    simp [go_sem,hv26]
    exact hK _ _ (hA.c.alloc hsz (by omega) hno) trivial (fun _ _ _ _ h=>wl_any h)
   ·intro listed A W hA hno hr K hK
    have e54:A.tmps[54]?.getD undef=.agg #[.int .u64 g,.int .u32 e,.int .u64 a,.int .u64 v,.slice (some ⟨bo,0,none⟩) n n,.slice (some ⟨bl,0,none⟩) n n]:=slot_is (hA.val 19 _ rfl (hr ⟨19,.data⟩ (by simp) rfl))
    have hsz:=hA.size
    simp at hsz
    have h20:=hr ⟨20,.data⟩ (by simp) rfl
    obtain ⟨b,hs6,hbH,hB⟩:=hA.c.blk h20
    refine wp_store_row _ (.tmp 6) (.tmp 54) rfl b (csC g e a v (some ⟨bo,0,none⟩) n n (some ⟨bl,0,none⟩) n n) hs6 ((hA.val 19 _ rfl (hr ⟨19,.data⟩ (by simp) rfl))) _ _ hB info_c (by split <;> rfl) (csC_one _ _ _ _ _ _ _ _ _ _) ?_
    exact hK undef _ (hA.c.store hsz h20 (by omega) (by omega) (by omega) (by omega) hs6) trivial (fun _ _ _ _ h=>wl_any h)
  ·intro A W hA
   obtain ⟨b,s6,hbH,hB⟩:=hA.c.blk (by simp)
   rw [if_pos (by simp)] at hB
   have s2:A.tmps.getD 2 undef=.pointer (some ⟨w.heap.size,0,none⟩):=(hA.kept 2 (Free.not_dst (by kernel_rfl))).trans rfl
   have hsz:=hA.slots
   have hde:=hA.defers
   have R:=Lib.hid hA.c.r
   have SA2:=Lib.hid hA.c.sa
   have SB2:=Lib.hid hA.c.sb
   clear hA R3 SA SB
   obtain ⟨tm,de⟩:=A
   simp only at s6 s2 hsz hde
   obtain ⟨y,hy,ee⟩:=arrF59 hsz
   have t2:y 2=.pointer (some ⟨w.heap.size,0,none⟩):=(hy _).symm.trans s2
   have t6:y 6=.pointer (some ⟨b,0,none⟩):=(hy _).symm.trans s6
   rw [t2,t6] at ee
   clear hy s2 s6 hsz t2 t6
   subst ee hde
   have BB:=Lib.hid hB
   have hbne:w.heap.size≠b:=by omega
   clear hB hv26
   have g0:0≤g:=by rw [← Hg.out]; omega
   have a0:0≤a:=by rw [← Ha.out]; omega
   have hml:n≤maxLen:=by unfold maxLen; omega
   obtain ⟨ok,HO⟩:∃ ok,Hid (okC ⟨g,e,a,v,evens (part l 29 87) n,odds (part l 29 87) n⟩=ok):=⟨_,rfl⟩
   have C:=Lib.hid (right_is g e a v (some ⟨bo,0,none⟩) n n (some ⟨bl,0,none⟩) n n _ _ ok W SA2.out SB2.out hml g0 a0 HO.out)
   cases ok with
   | false =>
     go_wp2_with (with_reducible refine load_c rfl (.tmp 6) rfl b rfl BB.out ?_)
     refine C.out.mono ?_
     rintro e' w4 ⟨rfl,hb⟩
     go_wp2_with fail
     refine (need_no _).mono ?_
     rintro e' w5 ⟨rfl,rfl⟩
     go_wp2_with fail
     refine ⟨rfl,read_not (Wd.Ge.trans R.out.b hb) (fun h=>?_)⟩
     have:=h.ok
     rw [EL.out,CE.out,HO.out] at this
     exact absurd this (by decide)
   | true =>
     go_wp2_with (with_reducible refine load_c rfl (.tmp 6) rfl b rfl BB.out ?_)
     refine C.out.mono ?_
     rintro e' w4 ⟨rfl,hb⟩
     have R4:=Lib.hid (R.out.later hb)
     have B4:=Lib.hid (BB.out.later hb)
     have SA4:=Lib.hid (SA2.out.later hb)
     have SB4:=Lib.hid (SB2.out.later hb)
     clear R BB SA2 SB2 hb C
     go_wp2_with fail
     refine (need_yes _).mono ?_
     rintro e' w5 ⟨rfl,rfl⟩
     have Z4:=Lib.hid R4.out.z
     go_wp2_with (first
      | (with_reducible refine load_c rfl (.tmp 6) rfl b rfl B4.out ?_)
      | (with_reducible refine store_c rfl (.tmp 2) (.tmp 58) rfl w.heap.size rfl rfl Z4.out ?_))
     refine bodyPost_ret (res_c1 rfl _ _ w.heap.size rfl (Z4.out.row _)) rfl ⟨below_row R4.out.b (Nat.le_refl _) _,.inl ⟨reads_sec ?_,_,rfl,?_⟩⟩
     ·rw [EL.out]
      refine ⟨HL.out,?_,SUM.out,by rw [HN.out]; omega,fun i h1 h2=>?_,by rw [CE.out]; exact HO.out⟩
      ·have:=HE.out
       unfold part at this
       rw [List.drop_zero,List.take_of_length_le (by rw [List.length_drop,HL.out]; omega)] at this
       exact this
      ·rw [HN.out] at h1
       have:=HZ.out (i-29) (by omega) (by omega)
       rw [part_at l 29 87 _ (by omega),show 29+(i-29)=i by omega] at this
       exact this
     ·rw [EL.out,CE.out]
      exact ⟨_,_,_,_,_,_,rfl,SA4.out.far (by omega) _,SB4.out.far (by omega) _,fun a ha=>by injection ha with ha; subst ha; exact Nat.le_of_lt q5,fun a ha=>by injection ha with ha; subst ha; exact Nat.le_of_lt q6⟩
open Go.RowKit Go.Lib Wd Cr
set_option linter.unusedVariables false
theorem catch_idle (p q:Addr) (w:World) :
 CallsD Tryz.prog 183 #[.pointer (some p),.pointer (some q)] .returning w fun e u' w'=>e=.returned (.tuple #[])∧u' = .returning∧w' = w:=by
 refine callsD_of_wpS Tryz.func183 rfl fun c₀ cs hu=>?_
 apply wpS_seq
 apply wpS_region
 simp [wpOpsS,go_sem,recoverD,hu,Tryz.ntmps183,Exit.thenS]
 refine wpS_of_wp ?_
 rw [show #[Value.pointer (some p),Value.pointer (some q)]++((Array.replicate 5 undef).setIfInBounds 1 Value.nilIface).setIfInBounds 0 Value.nilIface=#[.pointer (some p),.pointer (some q),.nilIface,.nilIface,undef,undef,undef] from rfl]
 go_wp2_with fail
 cases c₀
 simp_all [bodyPostS,results,Tryz.results183]
theorem catch_panicking (pb qb:Nat) (g e l v:Int) (A:Option Addr) (m p:Nat) (B:Option Addr) (k q:Nat) (y:Int) (w:World) (hp:Blk w pb 42 (csC g e l v A m p B k q)) (hq:Blk w qb 49 #[.int .i64 y]) :
 CallsD Tryz.prog 183 #[.pointer (some ⟨pb,0,none⟩),.pointer (some ⟨qb,0,none⟩)] (.panicking bad) w fun e u' w' =>
  e=.returned (.tuple #[])∧u' = .panicking [{ v:=.iface 49 (.int .i64 5),recovered:=true }]∧w' = (w.setRow pb (csC 0 0 0 0 none 0 0 none 0 0)).setCell ⟨qb,0,none⟩ (.int .i64 5):=by
 refine callsD_of_wpS Tryz.func183 rfl fun c₀ cs hu=>?_
 unfold bad at hu
 apply wpS_seq
 apply wpS_region
 simp [wpOpsS,go_sem,recoverD,hu,Tryz.ntmps183,Exit.thenS]
 refine wpS_of_wp ?_
 rw [show #[Value.pointer (some ⟨pb,0,none⟩),Value.pointer (some ⟨qb,0,none⟩)]++((Array.replicate 5 undef).setIfInBounds 1 (Value.iface 49 (.int .i64 5))).setIfInBounds 0 (Value.iface 49 (.int .i64 5))=#[.pointer (some ⟨pb,0,none⟩),.pointer (some ⟨qb,0,none⟩),.iface 49 (.int .i64 5),.iface 49 (.int .i64 5),undef,undef,undef] from rfl]
 have hne:pb≠qb:=fun e=>by
  subst e
  unfold Blk at hp hq
  rw [hp] at hq
  injection hq with hq
  injection hq with _ hq
  exact absurd hq (by decide)
 have hq2:=hq.far hne (csC 0 0 0 0 none 0 0 none 0 0)
 have c0:(w.setRow pb (csC 0 0 0 0 none 0 0 none 0 0)).cell? ⟨qb,0,none⟩=some (.int .i64 y):=hq2.cell 0
 have f0:=blk_frozen hq2 0
 go_wp2_with (with_reducible refine store_c rfl (.tmp 0) (.tmp 6) rfl pb rfl rfl hp ?_)
 cases c₀
 simp_all [bodyPostS,results,Tryz.results183]
def DecP (s:ByteArray) (w:World) (e:Ending) (w' : World):Prop :=
 Below w.heap.size w w'∧∃ x,e=.returned (.tuple #[x,.int .i64 (decE s.data.toList)])∧NewChk w.heap.size w' x (decC s.data.toList)
theorem res_c2 {fn:Func} {p' q' : Tmp} (h:fn.results=#[.cell p' 42,.cell q' 49]) (tmps:Array Value) (W:World) (b b' : Nat) {g e l v:Int} {A:Option Addr} {m p:Nat} {B:Option Addr} {k q:Nat} {t:TypeId} {y:Int} (hp:tmps.getD p' undef=.pointer (some ⟨b,0,none⟩)) (hq:tmps.getD q' undef=.pointer (some ⟨b',0,none⟩)) (L:Blk W b t (csC g e l v A m p B k q)) (M:W.cell? ⟨b',0,none⟩=some (.int .i64 y)) :
 (results fn tmps).run Tryz.prog W=.ok (.tuple #[.agg #[.int .u64 g,.int .u32 e,.int .u64 l,.int .u64 v,.slice A m p,.slice B k q],.int .i64 y]) W:=by
 have hp' : tmps[p']?.getD undef=.pointer (some ⟨b,0,none⟩):=by simpa using hp
 have hq' : tmps[q']?.getD undef=.pointer (some ⟨b',0,none⟩):=by simpa using hq
 have h1:(loadVar 42 ⟨b,0,none⟩).run Tryz.prog W=.ok (.agg #[.int .u64 g,.int .u32 e,.int .u64 l,.int .u64 v,.slice A m p,.slice B k q]) W:=run_loadVar_row W b t 42 (csC g e l v A m p B k q) (0,0) _ L Tryz.underlying42 rfl info_c
 have h2:(loadVar 49 ⟨b',0,none⟩).run Tryz.prog W=.ok (.int .i64 y) W:=by
  simp [go_sem,M]
 simp [results,h,hp',hq',asAddr,h1,h2]
set_option maxHeartbeats 1000000 in
theorem decode_any (s:ByteArray) (w:World) (hs:s.size≤maxLen):Calls Tryz.prog 154 #[.string s] w (DecP s w):=by
 have hmf:∀ (fn:Fn) (first cap:Array Value) (w:World),(Instr.makeFunc fn first cap).run Tryz.prog w=.ok (.func fn first cap) w:=fun _ _ _ _=>rfl
 have C:=Lib.hid (fun w=>read_any s w hs)
 have K0:Blk ((w.alloc (.cells #[.int .u64 0,.int .u32 0,.int .u64 0,.int .u64 0,.slice none 0 0,.slice none 0 0] 42)).alloc (.cells #[.int .i64 0] 49)) w.heap.size 42 (csC 0 0 0 0 none 0 0 none 0 0):=(Blk.new w 42 _).later (below1 _ _)
 have N0:Blk ((w.alloc (.cells #[.int .u64 0,.int .u32 0,.int .u64 0,.int .u64 0,.slice none 0 0,.slice none 0 0] 42)).alloc (.cells #[.int .i64 0] 49)) (w.heap.size+1) 49 #[.int .i64 0]:=blk_new _ _ _ _ (by simp)
 have B0:Below w.heap.size w ((w.alloc (.cells #[.int .u64 0,.int .u32 0,.int .u64 0,.int .u64 0,.slice none 0 0,.slice none 0 0] 42)).alloc (.cells #[.int .i64 0] 49)):=Wd.Ge.trans (below1 _ _) (below1 _ _)
 have hsz:((w.alloc (.cells #[.int .u64 0,.int .u32 0,.int .u64 0,.int .u64 0,.slice none 0 0,.slice none 0 0] 42)).alloc (.cells #[.int .i64 0] 49)).heap.size=w.heap.size+1+1:=by simp
 have HK:=Lib.hid K0
 have HN:=Lib.hid N0
 have HB:=Lib.hid B0
 have HS:=Lib.hid hsz
 clear K0 N0 B0 hsz
 go_enter_defers Tryz.func154,Tryz.ntmps154
 go_wp2_with fail
 refine (C.out _).mono ?_
 rintro e' w1 ⟨hb,⟨hsec,x,rfl,hx⟩ | ⟨hsec,rfl⟩⟩
 ·rw [HS.out] at hx
  have K1:=HK.out.later hb
  have N1:=HN.out.later hb
  have B1:=Wd.Ge.trans HB.out hb
  clear HK HN HB hb C HS
  have hx2:=hx
  obtain ⟨A,m,p,B,k,q,rfl,_⟩:=hx
  obtain ⟨g,e,l,v,EG⟩:∃ g e l v,Hid ((cutC s.data.toList).g=g∧(cutC s.data.toList).e=e∧(cutC s.data.toList).l=l∧(cutC s.data.toList).v=v):=⟨_,_,_,_,Lib.hid ⟨rfl,rfl,rfl,rfl⟩⟩
  rw [EG.out.1,EG.out.2.1,EG.out.2.2.1,EG.out.2.2.2] at hx2 ⊢
  have N2:=N1.far (g':=w.heap.size) (by omega) (csC g e l v A m p B k q)
  have c0:(w1.setRow w.heap.size (csC g e l v A m p B k q)).cell? ⟨w.heap.size+1,0,none⟩=some (.int .i64 0):=N2.cell 0
  have f0:=blk_frozen N2 0
  have K2:=K1.row (csC g e l v A m p B k q)
  have K3:=far_set K2 (show w.heap.size+1≠w.heap.size by omega) 0 (.int .i64 0)
  have N3:((w1.setRow w.heap.size (csC g e l v A m p B k q)).setCell ⟨w.heap.size+1,0,none⟩ (.int .i64 0)).cell? ⟨w.heap.size+1,0,none⟩=some (.int .i64 0):=World.cell?_setCell_same _ _ _ c0
  have B3:=(below_row B1 (Nat.le_refl _) (csC g e l v A m p B k q)).setCell (p:=⟨w.heap.size+1,0,none⟩) (show w.heap.size≤w.heap.size+1 by omega) (.int .i64 0)
  have X3:=(((hx2.row (b:=w.heap.size) (by omega) (csC g e l v A m p B k q)).set (b:=w.heap.size+1) (by omega) 0 (.int .i64 0)).mono (show w.heap.size≤w.heap.size+1+1 by omega))
  have HK1:=Lib.hid K1
  have HK3:=Lib.hid K3
  have HB3:=Lib.hid B3
  have HX3:=Lib.hid X3
  have HN3:=Lib.hid N3
  clear K1 K3 B3 X3 N3 hx2 N1 N2 B1 K2
  go_wp2_with (with_reducible refine store_c rfl (.tmp 2) (.tmp 6) rfl w.heap.size rfl rfl HK1.out ?_)
  refine leaves_cons (f:=183) (args:=#[.pointer (some ⟨w.heap.size,0,none⟩),.pointer (some ⟨w.heap.size+1,0,none⟩)]) (by simp) (by simp [go_sem]) ?_
  refine (catch_idle ⟨w.heap.size,0,none⟩ ⟨w.heap.size+1,0,none⟩ _).mono ?_
  rintro e' u' w'' ⟨rfl,rfl,rfl⟩
  refine ⟨_,res_c2 rfl _ _ w.heap.size (w.heap.size+1) rfl rfl HK3.out HN3.out,HB3.out,.agg #[.int .u64 g,.int .u32 e,.int .u64 l,.int .u64 v,.slice A m p,.slice B k q],?_,?_⟩
  ·rw [(dec_yes hsec).2]
  ·rw [(dec_yes hsec).1]; exact HX3.out
 ·have K1:=HK.out.later hb
  have N1:=HN.out.later hb
  have B1:=Wd.Ge.trans HB.out hb
  go_wp2_with fail
  refine leaves_cons (f:=183) (args:=#[.pointer (some ⟨w.heap.size,0,none⟩),.pointer (some ⟨w.heap.size+1,0,none⟩)]) (by simp) (by simp [go_sem]) ?_
  refine (catch_panicking w.heap.size (w.heap.size+1) _ _ _ _ _ _ _ _ _ _ 0 _ K1 N1).mono ?_
  rintro e' u' w'' ⟨rfl,rfl,rfl⟩
  have N2:=N1.far (g':=w.heap.size) (by omega) (csC 0 0 0 0 none 0 0 none 0 0)
  have K3:=far_set (K1.row (csC 0 0 0 0 none 0 0 none 0 0)) (show w.heap.size+1≠w.heap.size by omega) 0 (.int .i64 5)
  have N3:((w1.setRow w.heap.size (csC 0 0 0 0 none 0 0 none 0 0)).setCell ⟨w.heap.size+1,0,none⟩ (.int .i64 5)).cell? ⟨w.heap.size+1,0,none⟩=some (.int .i64 5):=World.cell?_setCell_same _ _ _ (N2.cell 0)
  have B3:=(below_row B1 (Nat.le_refl _) (csC 0 0 0 0 none 0 0 none 0 0)).setCell (p:=⟨w.heap.size+1,0,none⟩) (show w.heap.size≤w.heap.size+1 by omega) (.int .i64 5)
  refine ⟨_,res_c2 rfl _ _ w.heap.size (w.heap.size+1) rfl rfl K3 N3,B3,.agg #[.int .u64 0,.int .u32 0,.int .u64 0,.int .u64 0,.slice none 0 0,.slice none 0 0],?_,?_⟩
  ·rw [(dec_no hsec).2]
  ·rw [(dec_no hsec).1]; exact zero_new _ _
def BestP (s t:ByteArray) (w:World) (e:Ending) (w' : World):Prop :=
 Below w.heap.size w w'∧∃ x,e=.returned (.tuple #[x,.int .i64 (bestI s.data.toList t.data.toList:Nat),.int .i64 (bestE s.data.toList t.data.toList)])∧NewChk w.heap.size w' x (bestC s.data.toList t.data.toList)
theorem res_c3 {fn:Func} {p' q' r' : Tmp} (h:fn.results=#[.cell p' 42,.tmp q',.tmp r']) (tmps:Array Value) (W:World) (b:Nat) {g e l v:Int} {A:Option Addr} {m p:Nat} {B:Option Addr} {k q:Nat} {t:TypeId} {y z:Value} (hp:tmps.getD p' undef=.pointer (some ⟨b,0,none⟩)) (hq:tmps.getD q' undef=y) (hr:tmps.getD r' undef=z) (L:Blk W b t (csC g e l v A m p B k q)) :
 (results fn tmps).run Tryz.prog W=.ok (.tuple #[.agg #[.int .u64 g,.int .u32 e,.int .u64 l,.int .u64 v,.slice A m p,.slice B k q],y,z]) W:=by
 have hp' : tmps[p']?.getD undef=.pointer (some ⟨b,0,none⟩):=by simpa using hp
 have hq' : tmps[q']?.getD undef=y:=by simpa using hq
 have hr' : tmps[r']?.getD undef=z:=by simpa using hr
 have h1:(loadVar 42 ⟨b,0,none⟩).run Tryz.prog W=.ok (.agg #[.int .u64 g,.int .u32 e,.int .u64 l,.int .u64 v,.slice A m p,.slice B k q]) W:=run_loadVar_row W b t 42 (csC g e l v A m p B k q) (0,0) _ L Tryz.underlying42 rfl info_c
 simp [results,h,hp',hq',hr',asAddr,h1]
theorem bestE_no {a b:List UInt8} (h:isSec a=false) (h' : isSec b=false):bestE a b=5∧bestI a b=0∧bestC a b=zeroC:=by
 unfold bestE bestI bestC
 rw [if_pos ⟨h,h'⟩,(dec_no h).1,(dec_no h').1]
 exact ⟨rfl,rfl,rfl⟩
theorem bestE_yes {a b:List UInt8} (h:¬ (isSec a=false∧isSec b=false)):bestE a b=0:=by
 unfold bestE; rw [if_neg h]
set_option maxHeartbeats 2000000 in
set_option maxRecDepth 100000 in
theorem best_any (s t:ByteArray) (w:World) (hs:s.size≤maxLen) (ht:t.size≤maxLen):Calls Tryz.prog 108 #[.string s,.string t] w (BestP s t w):=by
 have C0:=Lib.hid (fun w=>decode_any s w hs)
 have C1:=Lib.hid (fun w=>decode_any t w ht)
 have Z:Blk (w.alloc (.cells #[.int .u64 0,.int .u32 0,.int .u64 0,.int .u64 0,.slice none 0 0,.slice none 0 0] 42)) w.heap.size 42 (csC 0 0 0 0 none 0 0 none 0 0):=Blk.new w 42 _
 have B:=below1 w (.cells #[.int .u64 0,.int .u32 0,.int .u64 0,.int .u64 0,.slice none 0 0,.slice none 0 0] 42)
 obtain ⟨y0,E0⟩:∃ y,Hid (decE s.data.toList=y):=⟨_,Lib.hid rfl⟩
 obtain ⟨y1,E1⟩:∃ y,Hid (decE t.data.toList=y):=⟨_,Lib.hid rfl⟩
 go_enter Tryz.func108,Tryz.ntmps108
 go_wp2_with fail
 refine ((C0.out _)).mono ?_
 rintro e' u0 ⟨hb,x0,rfl,hx⟩
 replace B:=Wd.Ge.trans B hb
 replace Z:=Z.later hb
 have X0:=hx.mono (show w.heap.size+1≤_ from by simp)
 clear hb hx
 have X0c:=X0
 obtain ⟨A0,m0,p0,B0,k0,q0,rfl,_⟩:=X0c
 obtain ⟨g0,EG0⟩:∃ g,Hid ((decC s.data.toList).g=g):=⟨_,Lib.hid rfl⟩
 obtain ⟨e0,EE0⟩:∃ g,Hid ((decC s.data.toList).e=g):=⟨_,Lib.hid rfl⟩
 obtain ⟨l0,EL0⟩:∃ g,Hid ((decC s.data.toList).l=g):=⟨_,Lib.hid rfl⟩
 obtain ⟨v0,EV0⟩:∃ g,Hid ((decC s.data.toList).v=g):=⟨_,Lib.hid rfl⟩
 rw [EG0.out,EE0.out,EL0.out,EV0.out] at X0 ⊢
 rw [E0.out]
 have F0:Blk (u0.alloc (.cells #[.int .u64 0,.int .u32 0,.int .u64 0,.int .u64 0,.slice none 0 0,.slice none 0 0] 42)) u0.heap.size 42 (csC 0 0 0 0 none 0 0 none 0 0):=Blk.new u0 42 _
 go_upto_region 2 with (with_reducible refine store_c rfl (.tmp 7) (.tmp 14) rfl u0.heap.size rfl rfl F0 ?_; rw [World.setRow_alloc_new])
 have hb:=below1 u0 (.cells (csC g0 e0 l0 v0 A0 m0 p0 B0 k0 q0) 42)
 replace B:=Wd.Ge.trans B hb
 replace Z:=Z.later hb
 replace X0:=X0.later hb
 have N0:Blk (u0.alloc (.cells (csC g0 e0 l0 v0 A0 m0 p0 B0 k0 q0) 42)) u0.heap.size 42 (csC g0 e0 l0 v0 A0 m0 p0 B0 k0 q0):=Blk.new _ _ _
 have hle0:w.heap.size+1≤(u0.alloc (.cells (csC g0 e0 l0 v0 A0 m0 p0 B0 k0 q0) 42)).heap.size:=by have:=Z.lt; omega
 generalize u0.alloc (.cells (csC g0 e0 l0 v0 A0 m0 p0 B0 k0 q0) 42)=w0 at *
 generalize u0.heap.size=b0 at *
 clear hb F0
 go_wp2_with fail
 refine ((C1.out _)).mono ?_
 rintro e' u1 ⟨hb,x1,rfl,hx⟩
 replace B:=Wd.Ge.trans B hb
 replace Z:=Z.later hb
 replace X0:=X0.later hb
 replace N0:=N0.later hb
 have hle:=hle0
 have X1:=hx.mono (show w.heap.size+1≤_ from hle)
 clear hb hx
 have X1c:=X1
 obtain ⟨A1,m1,p1,B1,k1,q1,rfl,_⟩:=X1c
 obtain ⟨g1,EG1⟩:∃ g,Hid ((decC t.data.toList).g=g):=⟨_,Lib.hid rfl⟩
 obtain ⟨e1,EE1⟩:∃ g,Hid ((decC t.data.toList).e=g):=⟨_,Lib.hid rfl⟩
 obtain ⟨l1,EL1⟩:∃ g,Hid ((decC t.data.toList).l=g):=⟨_,Lib.hid rfl⟩
 obtain ⟨v1,EV1⟩:∃ g,Hid ((decC t.data.toList).v=g):=⟨_,Lib.hid rfl⟩
 rw [EG1.out,EE1.out,EL1.out,EV1.out] at X1 ⊢
 rw [E1.out]
 have F1:Blk (u1.alloc (.cells #[.int .u64 0,.int .u32 0,.int .u64 0,.int .u64 0,.slice none 0 0,.slice none 0 0] 42)) u1.heap.size 42 (csC 0 0 0 0 none 0 0 none 0 0):=Blk.new u1 42 _
 go_upto_region 3 with (with_reducible refine store_c rfl (.tmp 9) (.tmp 19) rfl u1.heap.size rfl rfl F1 ?_; rw [World.setRow_alloc_new])
 have hb:=below1 u1 (.cells (csC g1 e1 l1 v1 A1 m1 p1 B1 k1 q1) 42)
 replace B:=Wd.Ge.trans B hb
 replace Z:=Z.later hb
 replace X1:=X1.later hb
 have N1:Blk (u1.alloc (.cells (csC g1 e1 l1 v1 A1 m1 p1 B1 k1 q1) 42)) u1.heap.size 42 (csC g1 e1 l1 v1 A1 m1 p1 B1 k1 q1):=Blk.new _ _ _
 replace X0:=X0.later hb
 replace N0:=N0.later hb
 generalize u1.alloc (.cells (csC g1 e1 l1 v1 A1 m1 p1 B1 k1 q1) 42)=w1 at *
 generalize u1.heap.size=b1 at *
 clear hb F1 hle hle0 C0 C1
 have cg0:w1.cell? ⟨b0,0,none⟩=some (.int .u64 g0):=N0.cell 0
 have cg1:w1.cell? ⟨b1,0,none⟩=some (.int .u64 g1):=N1.cell 0
 have HN0:=Lib.hid N0
 have HN1:=Lib.hid N1
 have HX0:=Lib.hid X0
 have HX1:=Lib.hid X1
 have HZ:=Lib.hid Z
 have HB:=Lib.hid B
 clear N0 N1 X0 X1 Z B
 cases hsec0:isSec s.data.toList <;> cases hsec1:isSec t.data.toList
 case false.false =>
  obtain rfl:5=y0:=by rw [← E0.out,(dec_no hsec0).2]
  obtain rfl:5=y1:=by rw [← E1.out,(dec_no hsec1).2]
  go_wp2_with (with_reducible refine store_c rfl (.tmp 4) (.tmp 27) rfl w.heap.size rfl rfl HZ.out ?_)
  obtain ⟨h1,h2,h3⟩:=bestE_no hsec0 hsec1
  refine bodyPost_ret (res_c3 rfl _ _ w.heap.size rfl rfl rfl (HZ.out.row _)) rfl ⟨below_row HB.out (Nat.le_refl _) _,.agg #[.int .u64 0,.int .u32 0,.int .u64 0,.int .u64 0,.slice none 0 0,.slice none 0 0],?_,?_⟩
  ·rw [h1,h2]; rfl
  ·rw [h3]; exact zero_new _ _
 all_goals
  have hE:=Lib.hid (bestE_yes (a:=s.data.toList) (b:=t.data.toList) (by rw [hsec0,hsec1]; decide))
 case true.true =>
  obtain rfl:0=y0:=by rw [← E0.out,(dec_yes hsec0).2]
  obtain rfl:0=y1:=by rw [← E1.out,(dec_yes hsec1).2]
  clear hsec0 hsec1 E0 E1
  by_cases hg:g0<g1
  ·go_wp2_with (first
    | (with_reducible refine load_c rfl (.tmp 9) rfl b1 rfl HN1.out ?_)
    | (with_reducible refine store_c rfl (.tmp 4) (.tmp 33) rfl w.heap.size rfl rfl HZ.out ?_))
   refine bodyPost_ret (res_c3 rfl _ _ w.heap.size rfl rfl rfl (HZ.out.row _)) rfl ⟨below_row HB.out (Nat.le_refl _) _,.agg #[.int .u64 g1,.int .u32 e1,.int .u64 l1,.int .u64 v1,.slice A1 m1 p1,.slice B1 k1 q1],?_,?_⟩
   ·rw [hE.out]
    unfold bestI
    rw [if_pos (by rw [EG0.out,EG1.out]; exact hg)]
    rfl
   ·unfold bestC
    rw [if_pos (by rw [EG0.out,EG1.out]; exact hg)]
    exact (HX1.out.row (by omega) _).mono (by omega)
  ·go_wp2_with (first
    | (with_reducible refine load_c rfl (.tmp 7) rfl b0 rfl HN0.out ?_)
    | (with_reducible refine store_c rfl (.tmp 4) (.tmp 34) rfl w.heap.size rfl rfl HZ.out ?_))
   refine bodyPost_ret (res_c3 rfl _ _ w.heap.size rfl rfl rfl (HZ.out.row _)) rfl ⟨below_row HB.out (Nat.le_refl _) _,.agg #[.int .u64 g0,.int .u32 e0,.int .u64 l0,.int .u64 v0,.slice A0 m0 p0,.slice B0 k0 q0],?_,?_⟩
   ·rw [hE.out]
    unfold bestI
    rw [if_neg (by rw [EG0.out,EG1.out]; omega)]
    rfl
   ·unfold bestC
    rw [if_neg (by rw [EG0.out,EG1.out]; omega)]
    exact (HX0.out.row (by omega) _).mono (by omega)
 case true.false =>
  obtain rfl:0=y0:=by rw [← E0.out,(dec_yes hsec0).2]
  obtain rfl:5=y1:=by rw [← E1.out,(dec_no hsec1).2]
  clear hsec0 hsec1 E0 E1
  by_cases hg:g0<g1
  ·go_wp2_with (first
    | (with_reducible refine load_c rfl (.tmp 9) rfl b1 rfl HN1.out ?_)
    | (with_reducible refine store_c rfl (.tmp 4) (.tmp 33) rfl w.heap.size rfl rfl HZ.out ?_))
   refine bodyPost_ret (res_c3 rfl _ _ w.heap.size rfl rfl rfl (HZ.out.row _)) rfl ⟨below_row HB.out (Nat.le_refl _) _,.agg #[.int .u64 g1,.int .u32 e1,.int .u64 l1,.int .u64 v1,.slice A1 m1 p1,.slice B1 k1 q1],?_,?_⟩
   ·rw [hE.out]
    unfold bestI
    rw [if_pos (by rw [EG0.out,EG1.out]; exact hg)]
    rfl
   ·unfold bestC
    rw [if_pos (by rw [EG0.out,EG1.out]; exact hg)]
    exact (HX1.out.row (by omega) _).mono (by omega)
  ·go_wp2_with (first
    | (with_reducible refine load_c rfl (.tmp 7) rfl b0 rfl HN0.out ?_)
    | (with_reducible refine store_c rfl (.tmp 4) (.tmp 34) rfl w.heap.size rfl rfl HZ.out ?_))
   refine bodyPost_ret (res_c3 rfl _ _ w.heap.size rfl rfl rfl (HZ.out.row _)) rfl ⟨below_row HB.out (Nat.le_refl _) _,.agg #[.int .u64 g0,.int .u32 e0,.int .u64 l0,.int .u64 v0,.slice A0 m0 p0,.slice B0 k0 q0],?_,?_⟩
   ·rw [hE.out]
    unfold bestI
    rw [if_neg (by rw [EG0.out,EG1.out]; omega)]
    rfl
   ·unfold bestC
    rw [if_neg (by rw [EG0.out,EG1.out]; omega)]
    exact (HX0.out.row (by omega) _).mono (by omega)
 case false.true =>
  obtain rfl:5=y0:=by rw [← E0.out,(dec_no hsec0).2]
  obtain rfl:0=y1:=by rw [← E1.out,(dec_yes hsec1).2]
  clear hsec0 hsec1 E0 E1
  by_cases hg:g0<g1
  ·go_wp2_with (first
    | (with_reducible refine load_c rfl (.tmp 9) rfl b1 rfl HN1.out ?_)
    | (with_reducible refine store_c rfl (.tmp 4) (.tmp 33) rfl w.heap.size rfl rfl HZ.out ?_))
   refine bodyPost_ret (res_c3 rfl _ _ w.heap.size rfl rfl rfl (HZ.out.row _)) rfl ⟨below_row HB.out (Nat.le_refl _) _,.agg #[.int .u64 g1,.int .u32 e1,.int .u64 l1,.int .u64 v1,.slice A1 m1 p1,.slice B1 k1 q1],?_,?_⟩
   ·rw [hE.out]
    unfold bestI
    rw [if_pos (by rw [EG0.out,EG1.out]; exact hg)]
    rfl
   ·unfold bestC
    rw [if_pos (by rw [EG0.out,EG1.out]; exact hg)]
    exact (HX1.out.row (by omega) _).mono (by omega)
  ·go_wp2_with (first
    | (with_reducible refine load_c rfl (.tmp 7) rfl b0 rfl HN0.out ?_)
    | (with_reducible refine store_c rfl (.tmp 4) (.tmp 34) rfl w.heap.size rfl rfl HZ.out ?_))
   refine bodyPost_ret (res_c3 rfl _ _ w.heap.size rfl rfl rfl (HZ.out.row _)) rfl ⟨below_row HB.out (Nat.le_refl _) _,.agg #[.int .u64 g0,.int .u32 e0,.int .u64 l0,.int .u64 v0,.slice A0 m0 p0,.slice B0 k0 q0],?_,?_⟩
   ·rw [hE.out]
    unfold bestI
    rw [if_neg (by rw [EG0.out,EG1.out]; omega)]
    rfl
   ·unfold bestC
    rw [if_neg (by rw [EG0.out,EG1.out]; omega)]
    exact (HX0.out.row (by omega) _).mono (by omega)
open Go.RowKit Go.Lib Wd Cr
set_option linter.unusedVariables false
section
variable {ops:Array Oper} {rest:List Oper} {o:Oper} {a:Act} {w:World} {Q:Exit→Act→World→Prop}
end
end Go.Proofs.YtcnohlgigmmefaaGreat.Cp
