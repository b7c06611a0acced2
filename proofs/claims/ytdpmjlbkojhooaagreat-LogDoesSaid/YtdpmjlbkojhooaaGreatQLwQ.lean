/- A part. -/
import Derived.Test.YtdpmjlbkojhooaaGreatQLwP
import Derived.Maps.AppendAt
import Derived.Deep.RegionLaw
import Derived.IntWalk
namespace Go.Proofs.YtdpmjlbkojhooaaGreat.Cp
open Go.RowKit Go.Lib
set_option linter.unusedVariables false
set_option maxRecDepth 100000
open Go.RowKit Go.Lib Wd Cr
set_option linter.unusedVariables false
structure Its (w:World) (L:List (Nat × Array Value)) (M:List (Option Addr × Nat × List Int)) (W:World):Prop where
 b:Below w.heap.size w W
 k:∀ x∈L,Blk W x.1 89 x.2
 s:∀ y∈M,Sl W y.1 y.2.1 y.2.2
section
variable {w W W' : World} {L:List (Nat × Array Value)} {M:List (Option Addr × Nat × List Int)}
theorem Its.later (h:Its w L M W) (hb:Below W.heap.size W W'):Its w L M W':=⟨Wd.Ge.trans h.b hb,fun x hx=>(h.k x hx).later hb,fun y hy=>(h.s y hy).later hb⟩
theorem Its.drawn (h:Its w L M W):Its w L M { W with drawn:=W.drawn+1 }:=h.later (below_drawn W)
theorem Its.at_ (h:Its w L M W) {x:Nat × Array Value} (i:Nat) (hi:L[i]? = some x):Blk W x.1 89 x.2:=h.k x (List.mem_of_getElem? hi)
theorem Its.sl (h:Its w L M W) {y:Option Addr × Nat × List Int} (i:Nat) (hi:M[i]? = some y):Sl W y.1 y.2.1 y.2.2:=h.s y (List.mem_of_getElem? hi)
theorem Its.nil (h:Below w.heap.size w W):Its w [] [] W:=⟨h,(fun x hx=>by cases hx),(fun y hy=>by cases hy)⟩
theorem Its.cons (h:Its w L M W) {b:Nat} {cs:Array Value} (K:Blk W b 89 cs):Its w ((b,cs) :: L) M W :=
 ⟨h.b,(fun x hx=>by rcases List.mem_cons.1 hx with rfl|hx; exact K; exact h.k x hx),h.s⟩
theorem Its.scons (h:Its w L M W) {A:Option Addr} {m:Nat} {o:List Int} (K:Sl W A m o):Its w L ((A,m,o) :: M) W :=
 ⟨h.b,h.k,fun x hx=>by rcases List.mem_cons.1 hx with rfl|hx; exact K; exact h.s x hx⟩
end
theorem bytes_ext {s t:ByteArray} (h:s.data.toList=t.data.toList):s=t:=by
 apply ByteArray.ext
 exact Array.toList_inj.1 h
open Go.RowKit Go.Lib Wd Cr
set_option linter.unusedVariables false
theorem nth_take {l:List Int} {i j:Nat} (h:j<i):nth (l.take i) j=nth l j:=by
 unfold nth
 rw [List.getD_eq_getElem?_getD,List.getD_eq_getElem?_getD,List.getElem?_take_of_lt h]
theorem nth_take_mem {l:List Int} {i j:Nat} (h:j<i) (hi:i≤l.length):nth l j∈l.take i:=by
 rw [← nth_take h]
 exact nth_mem (by rw [List.length_take]; omega)
theorem not_mem_take {l:List Int} {i:Nat} {x:Int} (h:∀ t,t<i→nth l t≠x):x ∉ l.take i:=by
 intro hm
 obtain ⟨t,ht,e⟩:=List.mem_iff_getElem.1 hm
 rw [List.length_take] at ht
 refine h t (by omega) ?_
 rw [← nth_take (l:=l) (i:=i) (by omega)]
 unfold nth
 rw [List.getD_eq_getElem?_getD,List.getElem?_eq_getElem (by rw [List.length_take]; omega)]
 exact e
namespace R7
theorem right_early (g e l v:Int) (A:Option Addr) (m p:Nat) (B:Option Addr) (k q:Nat) (w:World) (hm:m≤maxLen) (h:g=0∨((g == 0)=false∧l=0)∨((g == 0)=false∧(l == 0)=false∧m<1)∨((g == 0)=false∧(l == 0)=false∧16<m)∨((g == 0)=false∧(l == 0)=false∧1≤m∧m≤16∧k≠m)) :
 Calls Tryz.prog 39 #[.agg #[.int .u64 g,.int .u32 e,.int .u64 l,.int .u64 v,.slice A m p,.slice B k q]] w fun e' w'=>e' = .returned (.bool false)∧Below w.heap.size w w':=by
 rcases h with rfl | ⟨h1,rfl⟩ | ⟨h1,h2,h3⟩ | ⟨h1,h2,h3⟩ | ⟨h1,h2,h3,h4,h5⟩
 ·go_enter Tryz.func39,Tryz.ntmps39
  go_wp2_with fail
  go_ret
  exact ⟨rfl,below1 _ _⟩
 ·go_enter Tryz.func39,Tryz.ntmps39
  go_wp2_with fail
  go_ret
  exact ⟨rfl,below1 _ _⟩
 ·obtain rfl:m=0:=by omega
  go_enter Tryz.func39,Tryz.ntmps39
  go_wp2_with fail
  go_ret
  exact ⟨rfl,below1 _ _⟩
 ·have q1:(16:Int)<(m:Int):=by omega
  have q2:¬ (m:Int)<1:=by omega
  go_enter Tryz.func39,Tryz.ntmps39
  go_wp2_with fail
  go_ret
  exact ⟨rfl,below1 _ _⟩
 ·have q1:¬ (16:Int)<(m:Int):=by omega
  have q2:¬ (m:Int)<1:=by omega
  have q3:((k:Int) != (m:Int))=true:=by simp; omega
  go_enter Tryz.func39,Tryz.ntmps39
  go_wp2_with fail
  go_ret
  exact ⟨rfl,below1 _ _⟩
set_option maxRecDepth 100000 in
set_option maxHeartbeats 8000000 in
theorem right_main (g e l v:Int) (ba oa m p bb ob q:Nat) (o n:List Int) (w:World) (hg:(g == 0)=false) (hl:(l == 0)=false) (hm1:1≤m) (hm2:m≤16) (hA:Hid (Sl w (some ⟨ba,oa,none⟩) m o)) (hB:Hid (Sl w (some ⟨bb,ob,none⟩) m n)) (hba:ba<w.heap.size) (hbb:bb<w.heap.size)
 (CA:Hid (∀ j,j<m→w.cell? ⟨ba,oa+j,none⟩=some (.int .i64 (nth o j)))) (CB:Hid (∀ j,j<m→w.cell? ⟨bb,ob+j,none⟩=some (.int .i64 (nth n j)))) :
 Calls Tryz.prog 39 #[.agg #[.int .u64 g,.int .u32 e,.int .u64 l,.int .u64 v,.slice (some ⟨ba,oa,none⟩) m p,.slice (some ⟨bb,ob,none⟩) m q]] w fun e' w'=>e' = .returned (.bool (segB o n))∧Below w.heap.size w w':=by
 have q1:¬ (16:Int)<(m:Int):=by omega
 have q2:¬ (m:Int)<1:=by omega
 have q3:((m:Int) != (m:Int))=false:=by simp
 have ho:=Lib.hid hA.out.len
 have hn:=Lib.hid hB.out.len
 have h0:=Lib.hid (inv0 g e l v (some ⟨ba,oa,none⟩) m p (some ⟨bb,ob,none⟩) m q 94 w hA.out hB.out)
 go_enter Tryz.func39,Tryz.ntmps39
 go_wp2_with fail
 go_loopg [4] 16 (fun gk s4 wr=>∃ i:Nat,i≤m∧gk=16-i∧s4=.int .i64 i∧Hid (InvC w w.heap.size g e l v (some ⟨ba,oa,none⟩) m p (some ⟨bb,ob,none⟩) m q o n wr)∧Hid (Good o n i))
 case atStart=>exact ⟨0,by omega,rfl,rfl,h0,Lib.hid ⟨by simp,by simp,by simp⟩⟩
 case round =>
  obtain ⟨i,hi,hgk,rfl,II,GG⟩:=hrel
  have HG:=Lib.hid hgk
  clear hgk
  have c4:=II.out.L.c4
  have c5:=II.out.L.c5
  by_cases hlt:i<m
  ·have hlti:(i:Int)<(m:Int):=by omega
   have ha:=((bcell II.out.b).1 ba (oa+i) hba).trans (CA.out i hlt)
   have hb:=((bcell II.out.b).1 bb (ob+i) hbb).trans (CB.out i hlt)
   have hoi:i<o.length:=by have:=ho.out; omega
   have hni:i<n.length:=by have:=hn.out; omega
   obtain ⟨x,X⟩:∃ x,Hid (nth o i=x):=⟨_,rfl⟩
   obtain ⟨y,Y⟩:∃ y,Hid (nth n i=y):=⟨_,rfl⟩
   rw [X.out] at ha
   rw [Y.out] at hb
   have B0:Hid ((x<0∨15<x)→segB o n=false):=Lib.hid (fun hx=>segB_no (fun hs=>by
    have:=hs.2.2.2.1 _ (nth_mem hoi)
    rw [X.out] at this
    omega))
   have B1:Hid ((y<0∨30<y)→segB o n=false):=Lib.hid (fun hx=>segB_no (fun hs=>by
    have:=hs.2.2.2.2.1 _ (nth_mem hni)
    rw [Y.out] at this
    omega))
   have B2:Hid (∀ j,j<i→nth o j=x→segB o n=false):=Lib.hid (fun j hj hx=>segB_no (fun hs=>not_nodup hoi (by rw [X.out,← hx]; exact nth_take_mem hj (by omega)) hs.2.2.2.2.2))
   by_cases hx0:x<0
   ·go_wp2_with fail
    go_ret
    exact ⟨ret_bool (B0.out (.inl hx0)).symm,II.out.b⟩
   by_cases hx1:15<x
   ·go_wp2_with fail
    go_ret
    exact ⟨ret_bool (B0.out (.inr hx1)).symm,II.out.b⟩
   by_cases hy0:y<0
   ·go_wp2_with fail
    go_ret
    exact ⟨ret_bool (B1.out (.inl hy0)).symm,II.out.b⟩
   by_cases hy1:30<y
   ·go_wp2_with fail
    go_ret
    exact ⟨ret_bool (B1.out (.inr hy1)).symm,II.out.b⟩
   go_wp2_with fail
   go_loopg [5] 16 (fun gk2 s5 wx=>∃ j:Nat,j≤i∧gk2=16-j∧s5=.int .i64 j∧Hid (InvC w w.heap.size g e l v (some ⟨ba,oa,none⟩) m p (some ⟨bb,ob,none⟩) m q o n wx)∧Hid (∀ t,t<j→nth o t≠x))
   case atStart=>exact ⟨0,by omega,rfl,rfl,II,Lib.hid (fun t ht=>by omega)⟩
   case round =>
    obtain ⟨j,hj,hgk2,rfl,JJ,NN⟩:=hrel
    have HG2:=Lib.hid hgk2
    clear hgk2 c4 c5 ha hb
    have c4:=JJ.out.L.c4
    by_cases hjl:j<i
    ·have hjli:(j:Int)<(i:Int):=by omega
     have hjm:(j:Int)<(m:Int):=by omega
     have ha:=((bcell JJ.out.b).1 ba (oa+i) hba).trans (CA.out i hlt)
     have hz:=((bcell JJ.out.b).1 ba (oa+j) hba).trans (CA.out j (by omega))
     obtain ⟨z,Z⟩:∃ z,Hid (nth o j=z):=⟨_,rfl⟩
     rw [X.out] at ha
     rw [Z.out] at hz
     by_cases hzx:z=x
     ·have HS:=Lib.hid (B2.out j hjl (by rw [Z.out,hzx]))
      have hq:(z == x)=true:=by simp [hzx]
      have HD:=Lib.hid JJ.out.drawn
      clear hzx
      go_wp2_with fail
      go_region
      go_wp2_with fail
      go_ret
      exact ⟨ret_bool HS.out.symm,HD.out.b⟩
     ·have hq:(z == x)=false:=by simp [hzx]
      have HD:=Lib.hid JJ.out.drawn
      have N2:Hid (∀ t,t<j+1→nth o t≠x):=Lib.hid (fun t ht=>by
       by_cases e:t=j
       ·subst e; rw [Z.out]; exact hzx
       ·exact NN.out t (by omega))
      clear hzx
      go_wp2_with fail
      go_region
      go_wp2_with fail
      go_roundg (16-(j+1))
      case measure=>have:=HG2.out; omega
      case rel=>exact ⟨j+1,by omega,rfl,by go_num,HD,N2⟩
    ·obtain rfl:j=i:=by omega
     have hjli:¬ (j:Int)<(j:Int):=by omega
     have G2:=Lib.hid (GG.out.next hoi hni (by rw [X.out]; omega) (by rw [Y.out]; omega) (by rw [X.out]; exact not_mem_take NN.out))
     clear hjl
     go_wp2_with fail
     go_roundg (16-(j+1))
     case measure=>have:=HG.out; omega
     case rel=>exact ⟨j+1,by omega,rfl,by go_num,JJ,G2⟩
  ·obtain rfl:i=m:=by omega
   have hlti:¬ (i:Int)<(i:Int):=by omega
   go_wp2_with fail
   go_ret
   refine ⟨ret_bool ?_,II.out.b⟩
   symm
   have h1:=ho.out
   have h2:=hn.out
   have g:=GG.out
   rw [segB_iff]
   refine ⟨by omega,by omega,by omega,?_,?_,?_⟩
   ·intro x hx; exact g.po x (by rw [List.take_of_length_le (by omega)]; exact hx)
   ·intro x hx; exact g.pn x (by rw [List.take_of_length_le (by omega)]; exact hx)
   ·have:=g.pd; rw [List.take_of_length_le (by omega)] at this; exact this
theorem right_is (g e l v:Int) (A:Option Addr) (m p:Nat) (B:Option Addr) (k q:Nat) (o n:List Int) (b:Bool) (w:World) (hA:Sl w A m o) (hB:Sl w B k n) (hm:m≤maxLen) (hg:0≤g) (hl:0≤l) (hb:okC ⟨g,e,l,v,o,n⟩=b) :
 Calls Tryz.prog 39 #[.agg #[.int .u64 g,.int .u32 e,.int .u64 l,.int .u64 v,.slice A m p,.slice B k q]] w fun e' w'=>e' = .returned (.bool b)∧Below w.heap.size w w':=by
 subst hb
 by_cases h:g≠0∧l≠0∧1≤m∧m≤16∧k=m
 ·obtain ⟨h1,h2,h3,h4,rfl⟩:=h
  have he:okC ⟨g,e,l,v,o,n⟩=segB o n:=by
   unfold okC
   rw [decide_eq_true (by simp only; exact ⟨h1,h2⟩),Bool.true_and]
  rw [he]
  obtain ⟨ba,oa,rfl,hba,ca⟩:=hA.cells (by omega)
  obtain ⟨bb,ob,rfl,hbb,cb⟩:=hB.cells (by omega)
  exact right_main g e l v ba oa k p bb ob q o n w (by simp [h1]) (by simp [h2]) h3 h4 (Lib.hid hA) (Lib.hid hB) hba hbb (Lib.hid ca) (Lib.hid cb)
 ·have he:okC ⟨g,e,l,v,o,n⟩=false:=by
   have h1:=hA.len
   have h2:=hB.len
   cases hq:okC ⟨g,e,l,v,o,n⟩
   ·rfl
   ·exfalso
    obtain ⟨p1,p2⟩:=(okC_iff _).1 hq
    have p3:=okC_o hq
    simp only at p1 p3
    exact h ⟨p1.1,p1.2,by omega,by omega,by omega⟩
  rw [he]
  refine right_early g e l v A m p B k q w hm ?_
  by_cases h1:g=0
  ·exact .inl h1
  by_cases h2:l=0
  ·exact .inr (.inl ⟨by simp [h1],h2⟩)
  by_cases h3:m<1
  ·exact .inr (.inr (.inl ⟨by simp [h1],by simp [h2],h3⟩))
  by_cases h4:16<m
  ·exact .inr (.inr (.inr (.inl ⟨by simp [h1],by simp [h2],h4⟩)))
  exact .inr (.inr (.inr (.inr ⟨by simp [h1],by simp [h2],by omega,by omega,fun e=>h ⟨h1,h2,by omega,by omega,e⟩⟩)))
end R7
open Go.RowKit Go.Lib Wd Cr
set_option linter.unusedVariables false
theorem r1put (n s:Int) (r:ByteArray) (w:World) (h0:0≤n) (h1:n<18446744073709551616) (hr:(⟨(putL n.toNat (clampN s)).toArray⟩:ByteArray)=r) :
 Calls Tryz.prog 145 #[.int .u64 n,.int .i64 s] w fun e w'=>e=.returned (.string r)∧Below w.heap.size w w':=by
 subst hr; exact R1.put_any n s w h0 h1
theorem refsum_is (s:ByteArray) (M:Int) (w:World) (hs:s.size≤maxLen) (hM:((Crc.more 0 s.data.toList:Nat):Int)=M) :
 Calls Tryz.prog 146 #[.string s] w fun e w'=>e=.returned (.int .u32 M)∧Below w.heap.size w w':=by
 subst hM; exact (refsum_any s w hs).mono fun _ _ ⟨he,hw⟩=>⟨he,hw ▸ Below.refl _ _⟩
theorem conv1b (W:World) (b:Nat) (x:Int) (q0:W.cell? ⟨b,0,none⟩=some (.int .u8 x)) :
 (convert 97 9 (.slice (some ⟨b,0,none⟩) 1 1)).run Tryz.prog W=.ok (.string (strOfNums [x])) W:=by
 refine run_convert_bytes_arg _ 97 5 Tryz.underlying97 Tryz.underlying5 b 0 1 1 [x] rfl (fun i hi=>?_) 9 Tryz.underlying9
 match i,hi with
 | 0,_=>exact q0
theorem conv2b (W:World) (b:Nat) (x y:Int) (q0:W.cell? ⟨b,0,none⟩=some (.int .u8 x)) (q1:W.cell? ⟨b,1,none⟩=some (.int .u8 y)) :
 (convert 97 9 (.slice (some ⟨b,0,none⟩) 2 2)).run Tryz.prog W=.ok (.string (strOfNums [x,y])) W:=by
 refine run_convert_bytes_arg _ 97 5 Tryz.underlying97 Tryz.underlying5 b 0 2 2 [x,y] rfl (fun i hi=>?_) 9 Tryz.underlying9
 match i,hi with
 | 0,_=>exact q0
 | 1,_=>exact q1
theorem num1 (x:Int) (h0:0≤x) (h1:x<256):(strOfNums [x]).data.toList=putL x.toNat 1:=by
 simp only [strOfNums,List.map_cons,List.map_nil,putL]
 rw [Nat.mod_eq_of_lt (by omega)]
theorem num2 (x y:Int) (h0:0≤x) (h1:x<256) (h2:0≤y) (h3:y<256):(strOfNums [x,y]).data.toList=putL x.toNat 1++putL y.toNat 1:=by
 simp only [strOfNums,List.map_cons,List.map_nil,putL,List.cons_append,List.nil_append]
 rw [Nat.mod_eq_of_lt (by omega),Nat.mod_eq_of_lt (by omega)]
theorem arrF70 {cs:Array Value} (h:cs.size=70):∃ y:Nat→Value,(∀ i,cs.getD i undef=y i)∧cs=#[y 0,y 1,y 2,y 3,y 4,y 5,y 6,y 7,y 8,y 9,y 10,y 11,y 12,y 13,y 14,y 15,y 16,y 17,y 18,y 19,y 20,y 21,y 22,y 23,y 24,y 25,y 26,y 27,y 28,y 29,y 30,y 31,y 32,y 33,y 34,y 35,y 36,y 37,y 38,y 39,y 40,y 41,y 42,y 43,y 44,y 45,y 46,y 47,y 48,y 49,y 50,y 51,y 52,y 53,y 54,y 55,y 56,y 57,y 58,y 59,y 60,y 61,y 62,y 63,y 64,y 65,y 66,y 67,y 68,y 69]:=by
 refine ⟨fun i=>cs.getD i undef,fun _=>rfl,?_⟩
 have e:cs=((List.range 70).map fun i=>cs.getD i undef).toArray:=by
  apply Array.ext
  ·simp [h]
  ·intro i h1 h2
   simp [h1]
 exact e.trans rfl
namespace R7
set_option maxHeartbeats 8000000 in
set_option maxRecDepth 100000 in
theorem encode_yes (g e l v:Int) (A:Option Addr) (m p:Nat) (B:Option Addr) (k q:Nat) (o n:List Int) (S:ByteArray) (w:World) (hA:Sl w A m o) (hB:Sl w B k n) (hf:Fits ⟨g,e,l,v,o,n⟩) (h:okC ⟨g,e,l,v,o,n⟩=true) (hS:secL ⟨g,e,l,v,o,n⟩=S.data.toList) :
 Calls Tryz.prog 96 #[.agg #[.int .u64 g,.int .u32 e,.int .u64 l,.int .u64 v,.slice A m p,.slice B k q]] w fun e' w'=>e' = .returned (.tuple #[.string S,.int .i64 0])∧Below w.heap.size w w':=by
 obtain ⟨ho1,ho2,ho3⟩:=okC_o h
 have hseg:=(segB_iff _ _).1 ((okC_iff _).1 h).2
 have hlen:=fieldsL_len ⟨g,e,l,v,o,n⟩
 have hbl:=bodyL_len h
 simp only at ho1 ho2 ho3 hlen hseg
 have hmo:=hA.len
 have hkn:=hB.len
 have hm1:1≤m:=by omega
 have hm2:m≤16:=by omega
 have hkm:k=m:=by omega
 have h0:=inv0 g e l v A m p B k q 94 w hA hB
 have C:=Lib.hid (fun W (hA:Sl W A m o) (hB:Sl W B k n)=>right_is g e l v A m p B k q o n true W hA hB (by unfold maxLen; omega) hf.g0 hf.l0 h)
 obtain ⟨g0,g1,e0,e1,l0,l1,v0,v1⟩:=hf
 simp only at g0 g1 e0 e1 l0 l1 v0 v1
 obtain ⟨ba,oa,rfl,hba,ca⟩:=hA.cells (by omega)
 obtain ⟨bb,ob,rfl,hbb,cb⟩:=hB.cells (by omega)
 subst hkm
 have CA:=Lib.hid ca
 have CB:=Lib.hid cb
 have HO:=Lib.hid hmo
 have HN:=Lib.hid hkn
 have SG:=Lib.hid hseg
 clear ca cb hseg
 obtain ⟨T1,H1⟩:∃ T:ByteArray,Hid ((⟨(putL g.toNat (clampN 8)).toArray⟩:ByteArray)=T):=⟨_,rfl⟩
 obtain ⟨T2,H2⟩:∃ T:ByteArray,Hid ((⟨(putL e.toNat (clampN 4)).toArray⟩:ByteArray)=T):=⟨_,rfl⟩
 obtain ⟨T3,H3⟩:∃ T:ByteArray,Hid ((⟨(putL l.toNat (clampN 8)).toArray⟩:ByteArray)=T):=⟨_,rfl⟩
 obtain ⟨T4,H4⟩:∃ T:ByteArray,Hid ((⟨(putL v.toNat (clampN 8)).toArray⟩:ByteArray)=T):=⟨_,rfl⟩
 obtain ⟨T5,H5⟩:∃ T:ByteArray,Hid (strOfNums [(k:Int)]=T):=⟨_,rfl⟩
 have z1:T1.size=8:=by rw [← H1.out]; exact put_size _ _
 have z2:T2.size=4:=by rw [← H2.out]; exact put_size _ _
 have z3:T3.size=8:=by rw [← H3.out]; exact put_size _ _
 have z4:T4.size=8:=by rw [← H4.out]; exact put_size _ _
 have z5:T5.size=1:=by rw [← H5.out]; rfl
 obtain ⟨U1,J1⟩:∃ U,T1++T2=U:=⟨_,rfl⟩
 obtain ⟨U2,J2⟩:∃ U,U1++T3=U:=⟨_,rfl⟩
 obtain ⟨U3,J3⟩:∃ U,U2++T4=U:=⟨_,rfl⟩
 obtain ⟨U4,J4⟩:∃ U,U3++T5=U:=⟨_,rfl⟩
 have y1:U1.size=12:=by rw [← J1,ByteArray.size_append]; omega
 have y2:U2.size=20:=by rw [← J2,ByteArray.size_append]; omega
 have y3:U3.size=28:=by rw [← J3,ByteArray.size_append]; omega
 have y4:U4.size=29:=by rw [← J4,ByteArray.size_append]; omega
 have q1:¬ 9223372036854775807<T1.size+T2.size:=by omega
 have q2:¬ 9223372036854775807<U1.size+T3.size:=by omega
 have q3:¬ 9223372036854775807<U2.size+T4.size:=by omega
 have q4:¬ 9223372036854775807<U3.size+T5.size:=by omega
 have E4:Hid (U4.data.toList=headL ⟨g,e,l,v,o,n⟩):=by
  refine Lib.hid ?_
  rw [← J4,← J3,← J2,← J1]
  simp only [ByteArray.data_append,Array.toList_append,← H1.out,← H2.out,← H3.out,← H4.out,← H5.out,headL,← hmo,num1 (k:Int) (by omega) (by omega)]
  rfl
 have ib:(k:Int)<256:=by omega
 have hkk:(k:Int)≤16:=by omega
 have hv8:=Tryz.zeroValue5
 clear z1 z2 z3 z4 z5 y1 y2 y3 y4 ho1 ho2 ho3 h hmo hkn hA hB
 have HK0:=Lib.hid h0
 go_enter Tryz.func96,Tryz.ntmps96
 obtain ⟨gg,c0,c1,c2,c3,c4,c5⟩:=h0.L
 clear h0
 go_wp2_with fail
 refine (C.out _ HK0.out.sa HK0.out.sb).mono ?_
 rintro e' w1 ⟨rfl,hb1⟩
 have i1:InvC w w.heap.size g e l v (some ⟨ba,oa,none⟩) k p (some ⟨bb,ob,none⟩) k q o n w1:=HK0.out.later hb1
 clear HK0 hb1 C c0 c1 c2 c3 c4 c5 gg
 go_wp2_with fail
 refine Free.wp_free [(fun _ u=>u=.pointer (some ⟨w.heap.size,0,none⟩)),
  (fun _ u=>u=.int .u64 g),
  (fun _ u=>u=.string T1),
  (fun _ u=>u=.pointer (some ⟨w.heap.size,1,none⟩)),
  (fun _ u=>u=.int .u32 e),
  (fun _ u=>u=.int .u64 e),
  (fun _ u=>u=.string T2),
  (fun _ u=>u=.string U1),
  (fun _ u=>u=.pointer (some ⟨w.heap.size,2,none⟩)),
  (fun _ u=>u=.int .u64 l),
  (fun _ u=>u=.string T3),
  (fun _ u=>u=.string U2),
  (fun _ u=>u=.pointer (some ⟨w.heap.size,3,none⟩)),
  (fun _ u=>u=.int .u64 v),
  (fun _ u=>u=.string T4),
  (fun _ u=>u=.string U3),
  (fun _ u=>u=.pointer (some ⟨w.heap.size,4,none⟩)),
  (fun _ u=>u=.slice (some ⟨ba,oa,none⟩) k p),
  (fun _ u=>u=.int .i64 (k:Int)),
  (fun _ u=>u=.int .u8 (k:Int)),
  (fun w u=>∃ b,u=.slice (some ⟨b,0,none⟩) 1 1∧b<w.heap.size∧w.cell? ⟨b,0,none⟩=some (.int .u8 (k:Int))),
  (fun _ u=>u=.string T5),
  (fun _ u=>u=.string U4),
  (fun _ u=>u=.string U4)] (InvC w w.heap.size g e l v (some ⟨ba,oa,none⟩) k p (some ⟨bb,ob,none⟩) k q o n) (fun W W'=>Below W.heap.size W W') (by kernel_rfl) (by kernel_rfl) i1.drawn (fun W W' h hb=>h.later hb) ?_ ?_ ?_
 ·intro p hp W W' u hb hu
  simp only [List.mem_cons,List.not_mem_nil,or_false] at hp
  rcases hp with rfl|rfl|rfl|rfl|rfl|rfl|rfl|rfl|rfl|rfl|rfl|rfl|rfl|rfl|rfl|rfl|rfl|rfl|rfl|rfl|rfl|rfl|rfl|rfl
  all_goals first|exact hu|(obtain ⟨b,h1,h2,h3⟩:=hu; exact ⟨b,h1,Nat.lt_of_lt_of_le h2 hb.size,((bcell hb).1 _ _ h2).trans h3⟩)
 ·refine ⟨?_,?_,?_,?_,?_,?_,?_,?_,?_,?_,?_,?_,?_,?_,?_,?_,?_,?_,?_,?_,?_,?_,?_,?_,trivial⟩
  ·intro listed A W hA hr K hK
   have e1:A.tmps[1]?.getD undef=.pointer (some ⟨w.heap.size,0,none⟩):=slot_is ((hA.kept 1 (Free.not_dst (by kernel_rfl))).trans rfl)
   simp [go_sem,e1]
   exact hK _ _ (Below.refl _ _) rfl
  ·intro listed A W hA hr K hK
   have e9:A.tmps[9]?.getD undef=.pointer (some ⟨w.heap.size,0,none⟩):=slot_is (hA.val 0 _ rfl (hr ⟨0,.data⟩ (by simp) rfl))
   have c:=hA.c.L.c0
   simp [go_sem,e9,c]
   exact hK _ _ (Below.refl _ _) rfl
  ·intro listed A W hA hr K hK
   have e10:A.tmps[10]?.getD undef=.int .u64 g:=slot_is (hA.val 1 _ rfl (hr ⟨1,.data⟩ (by simp) rfl))
   simp [go_sem,e10]
   refine (r1put g 8 T1 _ g0 g1 H1.out).mono ?_
   rintro e' w' ⟨rfl,hb⟩
   exact hK _ _ hb rfl
  ·intro listed A W hA hr K hK
   have e1:A.tmps[1]?.getD undef=.pointer (some ⟨w.heap.size,0,none⟩):=slot_is ((hA.kept 1 (Free.not_dst (by kernel_rfl))).trans rfl)
   simp [go_sem,e1]
   exact hK _ _ (Below.refl _ _) rfl
  ·intro listed A W hA hr K hK
   have e12:A.tmps[12]?.getD undef=.pointer (some ⟨w.heap.size,1,none⟩):=slot_is (hA.val 3 _ rfl (hr ⟨3,.data⟩ (by simp) rfl))
   have c:=hA.c.L.c1
   simp [go_sem,e12,c]
   exact hK _ _ (Below.refl _ _) rfl
  ·intro listed A W hA hr K hK
   have e13:A.tmps[13]?.getD undef=.int .u32 e:=slot_is (hA.val 4 _ rfl (hr ⟨4,.data⟩ (by simp) rfl))
   simp [go_sem,e13]
   refine hK _ _ (Below.refl _ _) (show Value.int .u64 _=.int .u64 e from Cr.val_int ?_)
   first|omega|(rw [IntKind.wrap_u64]; omega)
  ·intro listed A W hA hr K hK
   have e14:A.tmps[14]?.getD undef=.int .u64 e:=slot_is (hA.val 5 _ rfl (hr ⟨5,.data⟩ (by simp) rfl))
   simp [go_sem,e14]
   refine (r1put e 4 T2 _ e0 (by omega) H2.out).mono ?_
   rintro e' w' ⟨rfl,hb⟩
   exact hK _ _ hb rfl
  ·intro listed A W hA hr K hK
   have e11:A.tmps[11]?.getD undef=.string T1:=slot_is (hA.val 2 _ rfl (hr ⟨2,.data⟩ (by simp) rfl))
   have e15:A.tmps[15]?.getD undef=.string T2:=slot_is (hA.val 6 _ rfl (hr ⟨6,.data⟩ (by simp) rfl))
   simp [go_sem,e11,e15,J1,q1]
   exact hK _ _ (Below.refl _ _) rfl
  ·intro listed A W hA hr K hK
   have e1:A.tmps[1]?.getD undef=.pointer (some ⟨w.heap.size,0,none⟩):=slot_is ((hA.kept 1 (Free.not_dst (by kernel_rfl))).trans rfl)
   simp [go_sem,e1]
   exact hK _ _ (Below.refl _ _) rfl
  ·intro listed A W hA hr K hK
   have e17:A.tmps[17]?.getD undef=.pointer (some ⟨w.heap.size,2,none⟩):=slot_is (hA.val 8 _ rfl (hr ⟨8,.data⟩ (by simp) rfl))
   have c:=hA.c.L.c2
   simp [go_sem,e17,c]
   exact hK _ _ (Below.refl _ _) rfl
  ·intro listed A W hA hr K hK
   have e18:A.tmps[18]?.getD undef=.int .u64 l:=slot_is (hA.val 9 _ rfl (hr ⟨9,.data⟩ (by simp) rfl))
   simp [go_sem,e18]
   refine (r1put l 8 T3 _ l0 l1 H3.out).mono ?_
   rintro e' w' ⟨rfl,hb⟩
   exact hK _ _ hb rfl
  ·intro listed A W hA hr K hK
   have e16:A.tmps[16]?.getD undef=.string U1:=slot_is (hA.val 7 _ rfl (hr ⟨7,.data⟩ (by simp) rfl))
   have e19:A.tmps[19]?.getD undef=.string T3:=slot_is (hA.val 10 _ rfl (hr ⟨10,.data⟩ (by simp) rfl))
   simp [go_sem,e16,e19,J2,q2]
   exact hK _ _ (Below.refl _ _) rfl
  ·intro listed A W hA hr K hK
   have e1:A.tmps[1]?.getD undef=.pointer (some ⟨w.heap.size,0,none⟩):=slot_is ((hA.kept 1 (Free.not_dst (by kernel_rfl))).trans rfl)
   simp [go_sem,e1]
   exact hK _ _ (Below.refl _ _) rfl
  ·intro listed A W hA hr K hK
   have e21:A.tmps[21]?.getD undef=.pointer (some ⟨w.heap.size,3,none⟩):=slot_is (hA.val 12 _ rfl (hr ⟨12,.data⟩ (by simp) rfl))
   have c:=hA.c.L.c3
   simp [go_sem,e21,c]
   exact hK _ _ (Below.refl _ _) rfl
  ·intro listed A W hA hr K hK
   have e22:A.tmps[22]?.getD undef=.int .u64 v:=slot_is (hA.val 13 _ rfl (hr ⟨13,.data⟩ (by simp) rfl))
   simp [go_sem,e22]
   refine (r1put v 8 T4 _ v0 v1 H4.out).mono ?_
   rintro e' w' ⟨rfl,hb⟩
   exact hK _ _ hb rfl
  ·intro listed A W hA hr K hK
   have e20:A.tmps[20]?.getD undef=.string U2:=slot_is (hA.val 11 _ rfl (hr ⟨11,.data⟩ (by simp) rfl))
   have e23:A.tmps[23]?.getD undef=.string T4:=slot_is (hA.val 14 _ rfl (hr ⟨14,.data⟩ (by simp) rfl))
   simp [go_sem,e20,e23,J3,q3]
   exact hK _ _ (Below.refl _ _) rfl
  ·intro listed A W hA hr K hK
   have e1:A.tmps[1]?.getD undef=.pointer (some ⟨w.heap.size,0,none⟩):=slot_is ((hA.kept 1 (Free.not_dst (by kernel_rfl))).trans rfl)
   simp [go_sem,e1]
   exact hK _ _ (Below.refl _ _) rfl
  ·intro listed A W hA hr K hK
   have e25:A.tmps[25]?.getD undef=.pointer (some ⟨w.heap.size,4,none⟩):=slot_is (hA.val 16 _ rfl (hr ⟨16,.data⟩ (by simp) rfl))
   have c:=hA.c.L.c4
   simp [go_sem,e25,c]
   exact hK _ _ (Below.refl _ _) rfl
  ·intro listed A W hA hr K hK
   have e26:A.tmps[26]?.getD undef=.slice (some ⟨ba,oa,none⟩) k p:=slot_is (hA.val 17 _ rfl (hr ⟨17,.data⟩ (by simp) rfl))
   simp [go_sem,e26]
   exact hK _ _ (Below.refl _ _) rfl
  ·intro listed A W hA hr K hK
   have e27:A.tmps[27]?.getD undef=.int .i64 (k:Int):=slot_is (hA.val 18 _ rfl (hr ⟨18,.data⟩ (by simp) rfl))
   simp [go_sem,e27]
   refine hK _ _ (Below.refl _ _) (show Value.int .u8 _=.int .u8 (k:Int) from Cr.val_int ?_)
   first|omega|(rw [IntKind.wrap_u8]; omega)
  ·intro listed A W hA hr K hK
   have e28:A.tmps[28]?.getD undef=.int .u8 (k:Int):=slot_is (hA.val 19 _ rfl (hr ⟨19,.data⟩ (by simp) rfl))
   simp [go_sem,e28]
   exact hK _ _ (below1 _ _) ⟨W.heap.size,rfl,by simp,by simp [go_sem]⟩
  ·intro listed A W hA hr K hK
   have e29:(fun w u=>∃ b,u=.slice (some ⟨b,0,none⟩) 1 1∧b<w.heap.size∧w.cell? ⟨b,0,none⟩=some (.int .u8 (k:Int))) W (A.tmps.getD 29 undef):=hA.val 20 _ rfl (hr ⟨20,.data⟩ (by simp) rfl)
   obtain ⟨b,e29,hb,q0⟩:=e29
   replace e29:=slot_is e29
   have hcv:=conv1b W b (k:Int) q0
   rw [H5.out] at hcv
   simp [go_sem,e29,hcv]
   exact hK _ _ (Below.refl _ _) rfl
  ·intro listed A W hA hr K hK
   have e24:A.tmps[24]?.getD undef=.string U3:=slot_is (hA.val 15 _ rfl (hr ⟨15,.data⟩ (by simp) rfl))
   have e30:A.tmps[30]?.getD undef=.string T5:=slot_is (hA.val 21 _ rfl (hr ⟨21,.data⟩ (by simp) rfl))
   simp [go_sem,e24,e30,J4,q4]
   exact hK _ _ (Below.refl _ _) rfl
  ·intro listed A W hA hr K hK
   have e31:A.tmps[31]?.getD undef=.string U4:=slot_is (hA.val 22 _ rfl (hr ⟨22,.data⟩ (by simp) rfl))
   simp [go_sem,e31]
   exact hK _ _ (Below.refl _ _) rfl
 ·intro A W hA
  have s4:A.tmps.getD 4 undef=.string U4:=hA.val 23 _ rfl rfl
  have s1:A.tmps.getD 1 undef=.pointer (some ⟨w.heap.size,0,none⟩):=(hA.kept 1 (Free.not_dst (by kernel_rfl))).trans rfl
  have hsz:=hA.slots
  have hde:=hA.defers
  have I2:=Lib.hid hA.c
  clear hA i1
  obtain ⟨tm,de⟩:=A
  simp only at s4 s1 hsz hde
  obtain ⟨y,hy,ee⟩:=arrF70 hsz
  have t1:y 1=.pointer (some ⟨w.heap.size,0,none⟩):=(hy _).symm.trans s1
  have t4:y 4=.string U4:=(hy _).symm.trans s4
  rw [t1,t4] at ee
  clear hy s1 s4 hsz t1 t4
  subst ee hde
  clear J1 J2 J3 J4 q1 q2 q3 q4
  go_wp2_with fail
  go_loopg [4,5] 16 (fun gk s4 s5 wr=>∃ i:Nat,∃ Z:ByteArray,i≤k∧gk=16-i∧s5=.int .i64 i∧s4=.string Z∧Hid (Z.data.toList=headL ⟨g,e,l,v,o,n⟩++pairsF (nth o) (nth n) i)∧Hid (InvC w w.heap.size g e l v (some ⟨ba,oa,none⟩) k p (some ⟨bb,ob,none⟩) k q o n wr))
  case atStart=>exact ⟨0,U4,by omega,rfl,rfl,rfl,Lib.hid (by rw [E4.out]; simp [pairsF]),I2⟩
  case round =>
   obtain ⟨i,Z,hi,hgk,rfl,rfl,HZ,II⟩:=hrel
   have HG:=Lib.hid hgk
   clear hgk
   have zZ:Z.size=29+2*i:=by rw [Go.Lib.size_eq,HZ.out,List.length_append,headL_len,pairsF_len]
   have c4:=II.out.L.c4
   have c5:=II.out.L.c5
   by_cases hlt:i<k
   ·have hlti:(i:Int)<(k:Int):=by omega
    have hoi:i<o.length:=by have:=HO.out; omega
    have hni:i<n.length:=by have:=HN.out; omega
    obtain ⟨x,X⟩:∃ x,Hid (nth o i=x):=⟨_,rfl⟩
    obtain ⟨y,Y⟩:∃ y,Hid (nth n i=y):=⟨_,rfl⟩
    have hx:0≤x∧x<16:=by rw [← X.out]; exact SG.out.2.2.2.1 _ (nth_mem hoi)
    have hy:0≤y∧y≤30:=by rw [← Y.out]; exact SG.out.2.2.2.2.1 _ (nth_mem hni)
    obtain ⟨hx0,hx1⟩:=hx
    obtain ⟨hy0,hy1⟩:=hy
    have ha:=((bcell II.out.b).1 ba (oa+i) hba).trans (CA.out i hlt)
    have hb:=((bcell II.out.b).1 bb (ob+i) hbb).trans (CB.out i hlt)
    rw [X.out] at ha
    rw [Y.out] at hb
    obtain ⟨XY,JX⟩:∃ U,Hid (strOfNums [x,y]=U):=⟨_,rfl⟩
    have zxy:XY.size=2:=by rw [← JX.out]; rfl
    obtain ⟨ZZ,JZ⟩:∃ U,Z++XY=U:=⟨_,rfl⟩
    have r2:¬ 9223372036854775807<Z.size+XY.size:=by omega
    have HZZ:Hid (ZZ.data.toList=headL ⟨g,e,l,v,o,n⟩++pairsF (nth o) (nth n) (i+1)):=by
     refine Lib.hid ?_
     rw [← JZ,ByteArray.data_append,Array.toList_append,HZ.out,← JX.out,num2 x y hx0 (by omega) hy0 (by omega),pairsF,X.out,Y.out,List.append_assoc]
    have wx:IntKind.u8.wrap x=x:=by rw [IntKind.wrap_u8]; omega
    have wy:IntKind.u8.wrap y=y:=by rw [IntKind.wrap_u8]; omega
    have cv1:=conv2b (wr.alloc (.cells #[.int .u8 x,.int .u8 y] 5)).drew wr.heap.size x y (by simp [go_sem]) (by simp [go_sem])
    have cv2:=conv2b (wr.alloc (.cells #[.int .u8 x,.int .u8 y] 5)) wr.heap.size x y (by simp [go_sem]) (by simp [go_sem])
    rw [JX.out] at cv1 cv2
    have I3:=Lib.hid ((II.out.later (below1 wr (.cells #[.int .u8 x,.int .u8 y] 5))).drawn)
    clear zxy zZ
    go_wp2_with fail
    go_region
    go_wp2_with fail
    go_roundg (16-(i+1))
    case measure=>have:=HG.out; omega
    case rel=>exact ⟨i+1,ZZ,by omega,rfl,by go_num,rfl,HZZ,I3⟩
   ·obtain rfl:i=k:=by omega
    have hlti:¬ (i:Int)<(i:Int):=by omega
    obtain ⟨b,Hb⟩:∃ T:ByteArray,Hid (bodyL ⟨g,e,l,v,o,n⟩=T.data.toList):=⟨⟨(bodyL ⟨g,e,l,v,o,n⟩).toArray⟩,Lib.hid (by simp)⟩
    have zb:b.size=116:=by rw [Go.Lib.size_eq,← Hb.out]; exact hbl
    have HbU:Hid (∀ X:ByteArray,X.size=116→(∃ j,X.data.toList=Z.data.toList++List.replicate j 0)→X=b):=by
     refine Lib.hid (fun X hX ⟨j,hj⟩=>bytes_ext ?_)
     have hl2:=congrArg List.length hj
     rw [List.length_append,List.length_replicate,← Go.Lib.size_eq,← Go.Lib.size_eq,hX] at hl2
     have ef:headL ⟨g,e,l,v,o,n⟩++pairsF (nth o) (nth n) i=fieldsL ⟨g,e,l,v,o,n⟩:=by
      unfold fieldsL pairsL
      rw [← HO.out]
     rw [hj,← Hb.out,bodyL,HZ.out,ef,hlen]
     congr 2
     have:=HO.out
     omega
    obtain ⟨M,HM⟩:∃ M:Int,Hid (((Crc.more 0 b.data.toList:Nat):Int)=M):=⟨_,rfl⟩
    have M0:0≤M:=by rw [← HM.out]; omega
    have M1:M<4294967296:=by
     have:=Crc.more_lt b.data.toList (s:=0) (by omega)
     rw [← HM.out]; omega
    obtain ⟨T6,H6⟩:∃ T:ByteArray,Hid ((⟨(putL M.toNat (clampN 4)).toArray⟩:ByteArray)=T):=⟨_,rfl⟩
    have z6:T6.size=4:=by rw [← H6.out]; exact put_size _ _
    have z1:T1.size=8:=by rw [← H1.out]; exact put_size _ _
    obtain ⟨V1,K1⟩:∃ U,b++T6=U:=⟨_,rfl⟩
    have yv:V1.size=120:=by rw [← K1,ByteArray.size_append]; omega
    have JS:V1++T1=S:=by
     refine app_is ?_
     rw [← K1,ByteArray.data_append,Array.toList_append,← Hb.out,← H1.out,← H6.out,← hS,secL,← HM.out,← Hb.out,Int.toNat_natCast]
     rfl
    have r1:¬ 9223372036854775807<b.size+T6.size:=by omega
    have r2:¬ 9223372036854775807<V1.size+T1.size:=by omega
    have hbs:b.size≤maxLen:=by unfold maxLen; omega
    have zZ2:Z.size≤61:=by omega
    clear zb z6 z1 yv hlen hbl hS hlt zZ
    go_wp2_with fail
    clear c4 c5
    go_loop [4] (fun s=>∃ X:ByteArray,X.size≤116∧s=.string X∧Hid (∃ j,X.data.toList=Z.data.toList++List.replicate j 0)) (fun s=>116-(match s with | .string X=>X.size|_=>0))
    case atStart=>exact ⟨Z,by omega,rfl,Lib.hid ⟨0,by simp⟩⟩
    case round =>
     obtain ⟨X,hX,rfl,HX⟩:=hrel
     by_cases hlt:X.size<116
     ·have hlti:(X.size:Int)<116:=by omega
      have hxz:¬ 9223372036854775807<X.size+(⟨#[0]⟩:ByteArray).size:=by show ¬ 9223372036854775807<X.size+1; omega
      obtain ⟨Y,hY⟩:∃ Y,X++(⟨#[0]⟩:ByteArray)=Y:=⟨_,rfl⟩
      have hYs:Y.size=X.size+1:=by rw [← hY,ByteArray.size_append]; rfl
      have HY:Hid (∃ j,Y.data.toList=Z.data.toList++List.replicate j 0):=by
       obtain ⟨j,hj⟩:=HX.out
       refine Lib.hid ⟨j+1,?_⟩
       rw [← hY,ByteArray.data_append,Array.toList_append,hj,List.replicate_succ',List.append_assoc]
      clear HX
      go_wp2_with fail
      go_round
      case rel=>exact ⟨Y,by omega,by rw [← hY],HY⟩
      case measure=>show 116-Y.size<116-X.size; omega
     ·have hX2:X.size=116:=by omega
      obtain rfl:=HbU.out X hX2 HX.out
      have hlti:¬ (X.size:Int)<116:=by omega
      clear HX HbU hlt
      go_wp2_with fail
      have hne:Nonempty (In (InvC w w.heap.size g e l v (some ⟨ba,oa,none⟩) i p (some ⟨bb,ob,none⟩) i q o n)):=⟨⟨_,II.out⟩⟩
      have F0:∀ j:In (InvC w w.heap.size g e l v (some ⟨ba,oa,none⟩) i p (some ⟨bb,ob,none⟩) i q o n),j.W.cell? ⟨w.heap.size,0,none⟩=some (.int .u64 g):=fun j=>j.h.L.c0
      refine region_class (InvC w w.heap.size g e l v (some ⟨ba,oa,none⟩) i p (some ⟨bb,ob,none⟩) i q o n) (by kernel_rfl) (by kernel_rfl) II.out.drawn ?_
      repeat (go_big_quiet_step (first
       | (go_at_call 146; with_reducible exact class_call _ (fun hi=>inv_ge hi (refsum_is X M _ hbs HM.out)))
       | (go_at_call 145; with_reducible exact class_call _ (fun hi=>inv_ge hi (r1put M 4 T6 _ M0 (by omega) H6.out)))
       | (go_at_call 145; with_reducible exact class_call _ (fun hi=>inv_ge hi (r1put g 8 T1 _ g0 g1 H1.out)))))
      refine wpQuiet_nil ?_
      rintro _ ⟨j,rfl⟩
      go_wp2_with fail
      go_ret2
      exact ⟨rfl,j.h.b⟩
end R7
open Go.RowKit Go.Lib Wd Cr
set_option linter.unusedVariables false
def iv (l:List Int):List Value:=l.map fun x=>.int .i64 x
structure D7 (w:World) (bc:Nat) (g e a v:Int) (A:Option Addr) (p:Nat) (B:Option Addr) (q i j:Nat) (lo ln:List Int) (W:World):Prop where
 b:Below w.heap.size w W
 z:Blk W w.heap.size 94 (csC 0 0 0 0 none 0 0 none 0 0)
 hbc:w.heap.size<bc
 k:Blk W bc 94 (csC g e a v A i p B j q)
 oo:W.ownsRow (bc+1) 3 1 (.slice A i p) i (iv lo)
 on:W.ownsRow (bc+1) 3 1 (.slice B j q) j (iv ln)
 ne:∀ r,(Value.slice A i p).ownBlock=some r→(Value.slice B j q).ownBlock≠some r
structure D3 (w:World) (H:Nat) (vs:Array Value) (listed:Array Bool) (a:Act) (W:World):Prop where
 b:Below w.heap.size w W
 z:Blk W w.heap.size 94 (csC 0 0 0 0 none 0 0 none 0 0)
 hH:H≤W.heap.size
 ord:listed.getD 15 false=true→listed.getD 14 false=true
 blk:listed.getD 14 false=true→∃ b,a.tmps.getD 4 undef=.pointer (some ⟨b,0,none⟩)∧H≤b∧Blk W b 94 (if listed.getD 15 false=true then vs else csC 0 0 0 0 none 0 0 none 0 0)
section
variable {w:World} {H:Nat} {vs:Array Value} {listed:Array Bool} {a:Act} {W W' : World}
theorem D3.step (h:D3 w H vs listed a W) (i d:Nat) (v:Value) (hi:i≠14) (hi' : i≠15) (hd:d≠4) (hb:Below W.heap.size W W'):D3 w H vs (listed.setIfInBounds i true) (a.put (some d) v) W':=by
 have e20:(listed.setIfInBounds i true).getD 14 false=listed.getD 14 false:=getD_set_ne false hi
 have e21:(listed.setIfInBounds i true).getD 15 false=listed.getD 15 false:=getD_set_ne false hi'
 refine ⟨Wd.Ge.trans h.b hb,h.z.later hb,Nat.le_trans h.hH hb.size,by rw [e20,e21]; exact h.ord,?_⟩
 rw [e20,e21]
 intro hl
 obtain ⟨b,h1,h2,h3⟩:=h.blk hl
 exact ⟨b,(Free.slot_ne v hd).trans h1,h2,h3.later hb⟩
theorem D3.alloc (h:D3 w H vs listed a W) (hsz:listed.size=16) (ha:4<a.tmps.size) (hno:listed.getD 14 true=false):D3 w H vs (listed.setIfInBounds 14 true) (a.put (some 4) (.pointer (some ⟨W.heap.size,0,none⟩))) (W.alloc (.cells (csC 0 0 0 0 none 0 0 none 0 0) 94)):=by
 have e21:(listed.setIfInBounds 14 true).getD 15 false=listed.getD 15 false:=getD_set_ne false (by omega)
 have e20:(listed.setIfInBounds 14 true).getD 14 false=true:=by simp [hsz]
 have f20:listed.getD 14 false=false:=by
  simp only [Array.getD_eq_getD_getElem?] at hno ⊢
  have:listed[14]? = some (listed[14]'(by omega)):=Array.getElem?_eq_getElem (by omega)
  rw [this] at hno ⊢
  exact hno
 have f21:¬ listed.getD 15 false=true:=fun hh=>by have:=h.ord hh; rw [f20] at this; exact absurd this (by decide)
 have hb:=below1 W (.cells (csC 0 0 0 0 none 0 0 none 0 0) 94)
 refine ⟨Wd.Ge.trans h.b hb,h.z.later hb,Nat.le_trans h.hH hb.size,fun _=>e20,fun _=>⟨W.heap.size,?_,h.hH,?_⟩⟩
 ·unfold Act.put
  simp [ha]
 ·rw [e21,if_neg f21]
  exact Blk.new _ _ _
theorem D3.store (h:D3 w H vs listed a W) (hsz:listed.size=16) (hl:listed.getD 14 false=true) (q1:w.heap.size<H) {b:Nat} (hs:a.tmps.getD 4 undef=.pointer (some ⟨b,0,none⟩)) :
 D3 w H vs (listed.setIfInBounds 15 true) (a.put none undef) (W.setRow b vs):=by
 obtain ⟨b',h1,h2,h3⟩:=h.blk hl
 have eb:b' = b:=by rw [hs] at h1; injection h1 with h1; injection h1 with h1; injection h1 with h1; exact h1.symm
 subst eb
 have e21:(listed.setIfInBounds 15 true).getD 15 false=true:=by simp [hsz]
 have e20:(listed.setIfInBounds 15 true).getD 14 false=listed.getD 14 false:=getD_set_ne false (by omega)
 refine ⟨below_row h.b (by omega) _,h.z.far (by omega) _,by rw [row_size]; exact h.hH,fun _=>by rw [e20]; exact hl,fun _=>⟨b',hs,h2,?_⟩⟩
 rw [e21,if_pos rfl]
 exact h3.row _
end
namespace R7
end R7
open Go.RowKit Go.Lib Wd Cr
set_option linter.unusedVariables false
namespace R7
end R7
end Go.Proofs.YtdpmjlbkojhooaaGreat.Cp
