/- A part. -/
import Derived.Test.YtcnohlgigmmefaaGreatPRoP
namespace Go.Proofs.YtcnohlgigmmefaaGreat.Ro
open Go.RowKit Go.Lib
open Tb (Tab TIn Sl okP csT lastN nth Fresh)
open Dk (St Only Grew)
open Lg (locI rowS loc_cell loc_whole loc_alloc loc_blk)
set_option linter.unusedVariables false
set_option maxRecDepth 100000
def itsC (items:List Dk.Item) (ia ir ba:Nat) (F:Option Addr) (p:Nat) (f:List Fd):List Dk.Item:=(items.set ia (allI ba F f.length p)).set ir (fndI F p f)
section
variable {items:List Dk.Item} {ia ir ba:Nat} {F F' : Option Addr} {p p' : Nat} {f f' : List Fd} {x y:Dk.Item}
theorem its_a (ha:items[ia]? = some x) (hne:ia≠ir):(itsC items ia ir ba F p f)[ia]? = some (allI ba F f.length p):=Lg.get_set (Lg.get_self ha) (Ne.symm hne)
theorem its_r (hr:items[ir]? = some y) (hne:ia≠ir):(itsC items ia ir ba F p f)[ir]? = some (fndI F p f):=Lg.get_self (Lg.get_set hr hne)
theorem its_o {j:Nat} {z:Dk.Item} (hj:items[j]? = some z) (h1:j≠ia) (h2:j≠ir):(itsC items ia ir ba F p f)[j]? = some z:=Lg.get_set (Lg.get_set hj (Ne.symm h1)) (Ne.symm h2)
theorem its_set (hne:ia≠ir):((itsC items ia ir ba F p f).set ia (allI ba F' f'.length p')).set ir (fndI F' p' f')=itsC items ia ir ba F' p' f':=by
 unfold itsC
 rw [List.set_comm _ _ (Ne.symm hne),List.set_set,List.set_set]
end
def frsL (h:Held) (st:Int) (c:Cp.Chk) (i:Nat):List Int:=firstsT h st c i++List.replicate (c.o.length-i) c.l
theorem firsts_len (h:Held) (st:Int) (c:Cp.Chk) (i:Nat):(firstsT h st c i).length=i:=by simp [firstsT]
theorem frs_len {h:Held} {st:Int} {c:Cp.Chk} {i:Nat} (hi:i≤c.o.length):(frsL h st c i).length=c.o.length:=by
 unfold frsL
 rw [List.length_append,firsts_len,List.length_replicate]
 omega
theorem frs_same {h:Held} {st:Int} {c:Cp.Chk} {i:Nat} (hi:i<c.o.length):(frsL h st c i).set i c.l=frsL h st c i:=by
 unfold frsL
 obtain ⟨k,hk⟩:∃ k,c.o.length-i=k+1:=⟨c.o.length-i-1,by omega⟩
 rw [hk,List.set_append,if_neg (by rw [firsts_len]; omega),firsts_len,Nat.sub_self,List.replicate_succ,List.set_cons_zero]
theorem frs_next {h:Held} {st:Int} {c:Cp.Chk} {i:Nat} (hi:i<c.o.length):(frsL h st c i).set i (firstT h st (nth c.o i) (nth c.n i) c.l)=frsL h st c (i+1):=by
 unfold frsL
 obtain ⟨k,hk⟩:∃ k,c.o.length-i=k+1:=⟨c.o.length-i-1,by omega⟩
 rw [hk,List.set_append,if_neg (by rw [firsts_len]; omega),firsts_len,Nat.sub_self,List.replicate_succ,List.set_cons_zero,firsts_next,List.append_assoc,show c.o.length-(i+1)=k by omega]
 rfl
theorem frs_all {h:Held} {st:Int} {c:Cp.Chk}:frsL h st c c.o.length=firstsT h st c c.o.length:=by
 unfold frsL
 rw [Nat.sub_self]
 simp
theorem reads_none {h:Held} {st:Int} {c:Cp.Chk} {i j:Nat} (hi:i<c.o.length) (hj:(j:Int)<nth c.n i) (hb:∀ r,recAt h st (nth c.o i) j=some r→r.k=3):readsT h st c.o c.n c.o.length=none:=by
 cases hr:readsT h st c.o c.n c.o.length with
 | none=>rfl
 | some f =>
   obtain ⟨g,hg⟩:=reads_iff.1 ⟨f,hr⟩ i hi
   obtain ⟨r,h1,h2⟩:=(segF_some hg).2 j (by omega)
   exact absurd (hb r h1) h2
theorem info_prr:(Tryz.prog.info? 97).map (·.size)=some 7:=by kernel_rfl
section
variable {ops:Array Oper} {rest:List Oper} {o:Oper} {a:Act} {w:World} {Q:Exit→Act→World→Prop}
theorem load_prr (hgd:o.guard=none) (x:Operand) (ho:o.op=.load 97 x) (b:Nat) (hx:a.eval x=.pointer (some ⟨b,0,none⟩)) {cs:Array Value} {t:TypeId} (hg:Tb.Blk w b t cs) (hs:cs.size=7)
 (h:wpList Tryz.prog ops Q rest (a.put o.dst (.agg cs)) w):wpList Tryz.prog ops Q (o :: rest) a w :=
 wpList_load_row hgd _ x ho b hx _ cs (0,0) _ hg Tryz.underlying97 rfl (by rw [hs]; exact info_prr) h
theorem store_prr (hgd:o.guard=none) (x y:Operand) (ho:o.op=.store 97 x y) (b:Nat) (hx:a.eval x=.pointer (some ⟨b,0,none⟩)) {cs old:Array Value} (hy:a.eval y=.agg cs) {t:TypeId} (hg:Tb.Blk w b t old) (hs:cs.size=7) (hz:old.size=7) (h1:cs.all (·.oneCell')=true)
 (h:wpList Tryz.prog ops Q rest (a.put o.dst undef) (w.setRow b cs)):wpList Tryz.prog ops Q (o :: rest) a w :=
 wpList_store_row hgd _ x y ho b cs hx hy _ _ hg (by rw [hs]; exact info_prr) (by rw [hs,hz]) h1 h
end
set_option maxHeartbeats 16000000 in
theorem pcnt_any {W0 W w:World} {its0 items:List Dk.Item} {kk d ia ir it ba:Nat} {s:St} {x0 y0:Dk.Item} (hD:Dk.Sep W0 W its0) (hk:its0[kk]? = some (Dk.diskI d s)) (hg:s.Good)
 (c:Cp.Chk) (sg st:Int) {A:Option Addr} {m:Nat} (p:Nat) {B:Option Addr} {k:Nat} (q:Nat) {C:Option Addr} {n:Nat} (r:Nat)
 (ha:items[ia]? = some x0) (hr:items[ir]? = some y0) (ht:items[it]? = some (tabI A m B k C n c.o c.n (List.replicate c.o.length c.l))) (hne:ia≠ir) (h1:it≠ia) (h2:it≠ir)
 (h:Dk.Sep W w (itsC items ia ir ba none 0 [])) (hok:okP ⟨sg,st,c.o,c.n,List.replicate c.o.length c.l⟩) (hfit:2+sg*(st+1)≤s.size) :
 Calls Tryz.prog 60 #[.pointer (some ⟨d,0,none⟩),.agg #[.int .i64 sg,.int .i64 st,.slice A m p,.slice B k q,.slice C n r],.func (.func 59) #[] #[.pointer (some ⟨ba,0,none⟩)]] w fun e w' =>
  (readsT s.cur st c.o c.n c.o.length=none∧e=.returned (.tuple #[.slice none 0 0,.int .i64 5])∧∃ F p' f,Dk.Sep W w' (itsC items ia ir ba F p' f)) ∨
  ∃ f F p' G pg,readsT s.cur st c.o c.n c.o.length=some f∧e=.returned (.tuple #[.slice G c.o.length pg,.int .i64 0])∧Dk.Sep W w' (rowS 38 1 (.slice G c.o.length pg) c.o.length (Tb.iv .u64 (firstsT s.cur st c c.o.length)) :: itsC items ia ir ba F p' f):=by
 have T0:=tab_tin h (its_o ht h1 h2)
 obtain ⟨⟨hfa,hfb,hfc⟩,hm,hkm,hnm,hml,hkl,hnl⟩:=Tb.ok_full hok T0
 obtain rfl:m=c.o.length:=T0.a.len
 obtain rfl:=hkm
 obtain rfl:=hnm
 have HO3:Hid (c.n.length=c.o.length):=Lib.hid hok.2.2.2.2.2.2.1
 have hvL:=Tryz.zeroValue93
 have hvR:=Tryz.zeroValue97
 have HD:=Lib.hid hD
 have HT:=Lib.hid ht
 have HOK:=Lib.hid hok
 have hsg:=hok.1
 have hst:=hok.2.1
 have hm16:c.o.length≤16:=hm.2
 have S1:=loc_front h 45 (csT sg st A c.o.length p B c.o.length q C c.o.length r)
 obtain ⟨b0,e0⟩:∃ z,w.heap.size=z:=⟨_,rfl⟩
 rw [e0] at S1
 clear h hD ht hok T0
 go_enter Tryz.func60,Tryz.ntmps60
 go_upto_region 1 with fail
 change Code.wp _ _ _ _ (w.alloc (.cells (csT sg st A c.o.length p B c.o.length q C c.o.length r) 45))
 clear e0
 generalize w.alloc (.cells (csT sg st A c.o.length p B c.o.length q C c.o.length r) 45)=w1 at *
 have HC:=Lib.hid (Tb.clone_u C c.o.length r (List.replicate c.o.length c.l) w1 (tab_tin S1 (j:=it+1) (its_o HT.out h1 h2)).c hfc (by omega))
 have x4:w1.cell? ⟨b0,4,none⟩=some (.slice C c.o.length r):=(loc_blk S1 (k:=0) rfl).cell 4
 go_wp2_with fail
 refine HC.out.mono ?_
 rintro e' w2 ⟨G,pg,rfl,hown,hb⟩
 obtain ⟨g,rfl,hg1,hg2⟩:=Tb.own_some hown (by omega)
 have S2:=rows_new S1 hown hb
 clear HC x4 S1 hown hb hg1 hg2
 have x2:w2.cell? ⟨b0,2,none⟩=some (.slice A c.o.length p):=(loc_blk S2 (k:=1) rfl).cell 2
 have HS2:=Lib.hid S2
 clear S2
 go_upto_region 2 with fail
 go_wp2_with fail
 go_loopg [21] c.o.length (fun gk s21 wr=>∃ (i:Nat) (f:List Fd) (F:Option Addr) (pf:Nat),i≤c.o.length∧gk=c.o.length-i∧s21=.int .i64 i∧Hid (readsT s.cur st c.o c.n i=some f ∧
  Dk.Sep W wr (rowS 38 1 (.slice (some ⟨g,0,none⟩) c.o.length pg) c.o.length (Tb.iv .u64 (frsL s.cur st c i)) :: locI [(b0,45,csT sg st A c.o.length p B c.o.length q C c.o.length r)] :: itsC items ia ir ba F pf f)))
 case atStart=>exact ⟨0,[],none,0,by omega,rfl,rfl,Lib.hid ⟨rfl,HS2.out⟩⟩
 case round =>
  obtain ⟨i,f,F,pf,hi,hgk,rfl,HI⟩:=hrel
  have HG:=Lib.hid hgk
  clear hgk HS2 x2
  have Sx:=HI.out.2
  by_cases hlt:i<c.o.length
  ·have hlti:(i:Int)<(c.o.length:Int):=by omega
   have T1:=tab_tin Sx (j:=it+2) (its_o HT.out h1 h2)
   obtain ⟨ca,oa,rfl,hba,hca⟩:=T1.a.cells (by omega)
   obtain ⟨cb,ob,rfl,hbb,hcb⟩:=T1.b.cells (by omega)
   obtain ⟨seg,hseg⟩:∃ z,Hid (nth c.o i=z):=⟨_,Lib.hid rfl⟩
   obtain ⟨len,hlen⟩:∃ z,Hid (nth c.n i=z):=⟨_,Lib.hid rfl⟩
   have ce:wr.cell? ⟨ca,oa+i,none⟩=some (.int .i64 seg):=by rw [← hseg.out]; exact hca i hlt
   have cn:wr.cell? ⟨cb,ob+i,none⟩=some (.int .i64 len):=by rw [← hlen.out]; exact hcb i hlt
   have bs:=HOK.out.2.2.2.1 _ (Tb.nth_mem (l:=c.o) hlt)
   have bn:=HOK.out.2.2.2.2.2.1 _ (Tb.nth_mem (l:=c.n) (i:=i) (by have:=HO3.out; omega))
   rw [hseg.out] at bs
   rw [hlen.out] at bn
   simp only at bs bn
   clear hca hcb T1
   have x3:wr.cell? ⟨b0,3,none⟩=some (.slice (some ⟨cb,ob,none⟩) c.o.length q):=(loc_blk Sx (k:=1) rfl).cell 3
   have n1:0≤(i:Int):=by omega
   have n3:(i:Int).toNat=i:=by omega
   go_upto_region 5 with fail
   go_wp2_with fail
   have HS:Hid (Dk.Sep W wr (rowS 38 1 (.slice (some ⟨g,0,none⟩) c.o.length pg) c.o.length (Tb.iv .u64 ((frsL s.cur st c i).set i (firstT s.cur st seg ((0:Nat):Int) c.l))) :: locI [(b0,45,csT sg st (some ⟨ca,oa,none⟩) c.o.length p (some ⟨cb,ob,none⟩) c.o.length q C c.o.length r)] :: itsC items ia ir ba F pf (f++[]))):=Lib.hid (by
    rw [List.append_nil,show firstT s.cur st seg ((0:Nat):Int) c.l=c.l from if_pos (Int.le_refl 0),frs_same hlt]
    exact Sx)
   have HR:=Lib.hid HI.out.1
   clear x3 ce cn HI Sx
   go_loopg [31] len.toNat (fun gk s31 wi=>∃ (j:Nat) (a:List Fd) (F:Option Addr) (pf:Nat),j≤len.toNat∧gk=len.toNat-j∧s31=.int .i64 j∧Hid (segF s.cur st seg j=some a ∧
    Dk.Sep W wi (rowS 38 1 (.slice (some ⟨g,0,none⟩) c.o.length pg) c.o.length (Tb.iv .u64 ((frsL s.cur st c i).set i (firstT s.cur st seg (j:Int) c.l))) :: locI [(b0,45,csT sg st (some ⟨ca,oa,none⟩) c.o.length p (some ⟨cb,ob,none⟩) c.o.length q C c.o.length r)] :: itsC items ia ir ba F pf (f++a))))
   case atStart=>exact ⟨0,[],F,pf,by omega,rfl,rfl,Lib.hid ⟨rfl,HS.out⟩⟩
   case round =>
    obtain ⟨j,a,F,pf,hj,hgj,rfl,HJ⟩:=hrel
    have HGJ:=Lib.hid hgj
    clear hgj HS
    have Sz:=HJ.out.2
    by_cases hjl:(j:Int)<len
    ·have S4:=Sz.alloc (.cells #[.int .i64 seg,.int .i64 j] 93)
     have K4:=Tb.Blk.new wr 93 #[.int .i64 seg,.int .i64 j]
     obtain ⟨b4,e4⟩:∃ z,wr.heap.size=z:=⟨_,rfl⟩
     rw [e4] at K4
     have HS4:=Lib.hid S4
     clear S4
     go_upto_region 9 with fail
     generalize wr.alloc (.cells #[.int .i64 seg,.int .i64 j] 93)=w6 at *
     have S6:=HS4.out
     have hgw:g<b4:=by rw [← e4]; exact ((rows_own Sz (k:=0) rfl).lt g rfl).2
     have l0:w6.cell? ⟨b4,0,none⟩=some (.int .i64 seg):=K4.cell 0
     have l1:w6.cell? ⟨b4,1,none⟩=some (.int .i64 j):=K4.cell 1
     have KT:=loc_blk S6 (k:=1) rfl
     obtain ⟨S,hS⟩:∃ S,s.cur (Tb.sectorT st seg j)=S:=⟨_,rfl⟩
     have hSz:S.size≤140737488355328:=by rw [← hS,Dk.cur_size hg]; omega
     have Q1:=Lib.hid (psec_any (HD.out.later S6.below) hk sg st seg j (.slice (some ⟨ca,oa,none⟩) c.o.length p) (.slice (some ⟨cb,ob,none⟩) c.o.length q) (.slice C c.o.length r) (has_num hsg hst hfit bs ⟨by omega,by omega⟩) S hS)
     have HSS:=Lib.hid hS
     clear hS e4
     go_upto_region 10 with (with_reducible refine Tb.load_t rfl (.tmp 4) rfl b0 rfl KT ?_)
     refine Q1.out.mono ?_
     rintro e' w7 ⟨rfl,hb7⟩
     have S7:=S6.later hb7
     have L7:=K4.later hb7
     clear KT l0 l1 Q1 S6 HS4 K4 hb7
     have Q2:=Lib.hid (pdec_any S w7 hSz)
     go_wp2_with fail
     refine Q2.out.mono ?_
     rintro e' w8 ⟨rfl,hb8⟩
     have S8:=S7.later hb8
     have L8:=L7.later hb8
     have HNX:=Lib.hid HSS.out
     have K9:Tb.Blk (w8.alloc (.cells #[.int .u64 0,.int .u32 0,.int .i64 0,.int .u64 0,.int .u64 0,.string ⟨#[]⟩,.string ⟨#[]⟩] 97)) w8.heap.size 97 #[.int .u64 0,.int .u32 0,.int .i64 0,.int .u64 0,.int .u64 0,.string ⟨#[]⟩,.string ⟨#[]⟩]:=Tb.Blk.new w8 _ _
     obtain ⟨cc,hcc⟩:∃ z,nxC (recOf S)=z:=⟨_,rfl⟩
     obtain ⟨er,her⟩:∃ z,(if (recOf S).isSome=true then (0:Int) else 5)=z:=⟨_,rfl⟩
     have hc7:cc.size=7:=by rw [← hcc]; exact nxC_size _
     have hc1:cc.all (·.oneCell')=true:=by rw [← hcc]; exact nxC_one _
     have HCC:=Lib.hid (And.intro hcc her)
     rw [hcc,her]
     clear S7 L7 Q2 hb8 hcc her
     obtain ⟨b5,e5⟩:∃ z,w8.heap.size=z:=⟨_,rfl⟩
     rw [e5] at K9
     go_upto_region 10 with (with_reducible refine store_prr rfl (.tmp 13) (.tmp 43) rfl b5 rfl rfl K9 hc7 rfl hc1 ?_)
     have K5:Tb.Blk ((w8.alloc (.cells #[.int .u64 0,.int .u32 0,.int .i64 0,.int .u64 0,.int .u64 0,.string ⟨#[]⟩,.string ⟨#[]⟩] 97)).setRow b5 cc) b5 97 cc:=K9.row cc
     have S9:Dk.Sep W ((w8.alloc (.cells #[.int .u64 0,.int .u32 0,.int .i64 0,.int .u64 0,.int .u64 0,.string ⟨#[]⟩,.string ⟨#[]⟩] 97)).setRow b5 cc) _:=S8.later (Tb.below_row (Tb.below1 w8 (.cells #[.int .u64 0,.int .u32 0,.int .i64 0,.int .u64 0,.int .u64 0,.string ⟨#[]⟩,.string ⟨#[]⟩] 97)) (by omega) cc)
     have L9:Tb.Blk ((w8.alloc (.cells #[.int .u64 0,.int .u32 0,.int .i64 0,.int .u64 0,.int .u64 0,.string ⟨#[]⟩,.string ⟨#[]⟩] 97)).setRow b5 cc) b4 93 #[.int .i64 seg,.int .i64 j]:=L8.later (Tb.below_row (Tb.below1 w8 (.cells #[.int .u64 0,.int .u32 0,.int .i64 0,.int .u64 0,.int .u64 0,.string ⟨#[]⟩,.string ⟨#[]⟩] 97)) (by omega) cc)
     have hb45:b4<b5:=by have:=L8.lt; omega
     clear S8 L8 K9 hc1 hc7 e5
     generalize (w8.alloc (.cells #[.int .u64 0,.int .u32 0,.int .i64 0,.int .u64 0,.int .u64 0,.string ⟨#[]⟩,.string ⟨#[]⟩] 97)).setRow b5 cc=w9 at *
     cases hrec:recOf S with
     | none =>
       rw [hrec] at HCC
       obtain rfl:(5:Int)=er:=HCC.out.2
       have HNO:Hid (readsT s.cur st c.o c.n c.o.length=none∧∃ F p' f,Dk.Sep W w9 (itsC items ia ir ba F p' f)):=Lib.hid ⟨reads_none hlt (by rw [hlen.out]; exact hjl) (fun r hr=>by
        rw [hseg.out] at hr
        unfold recAt at hr
        rw [HSS.out,hrec] at hr
        cases hr),_,_,_,Lg.sep_tail (Lg.sep_tail S9)⟩
       clear S9 L9 K5 HCC
       go_wp2_with fail
       go_ret2
       exact .inl ⟨HNO.out.1,rfl,HNO.out.2⟩
     | some rc =>
       rw [hrec] at HCC
       obtain rfl:(0:Int)=er:=HCC.out.2
       obtain rfl:recC rc=cc:=HCC.out.1
       clear HCC
       have hra:recAt s.cur st seg j=some rc:=by unfold recAt; rw [HSS.out]; exact hrec
       have k2:w9.cell? ⟨b5,2,none⟩=some (.int .i64 rc.k):=K5.cell 2
       by_cases hn3:rc.k=3
       ·have HNO:Hid (readsT s.cur st c.o c.n c.o.length=none∧∃ F p' f,Dk.Sep W w9 (itsC items ia ir ba F p' f)):=Lib.hid ⟨reads_none hlt (by rw [hlen.out]; exact hjl) (fun r hr=>by
         rw [hseg.out,hra] at hr
         injection hr with hr
         rw [← hr]
         exact hn3),_,_,_,Lg.sep_tail (Lg.sep_tail S9)⟩
        rw [hn3] at k2
        clear S9 L9 K5 hra
        go_wp2_with fail
        go_ret2
        exact .inl ⟨HNO.out.1,rfl,HNO.out.2⟩
       ·have k0:w9.cell? ⟨b5,0,none⟩=some (.int .u64 rc.l):=K5.cell 0
        have HFN:=Lib.hid (first_next (ls:=c.l) (h:=s.cur) (st:=st) (seg:=seg) (j:=j) rfl hra)
        have hown:=rows_own S9 (k:=0) rfl
        have hgl:g<w9.heap.size:=(hown.lt g rfl).2
        have hgb:g≠b4∧g≠b5:=by omega
        have fc:∃ v,w9.cell? ⟨g,i,none⟩=some v:=by
         have:=hown.cellAt i (by omega)
         rw [Tb.iv_at _ (by rw [List.length_set,frs_len (by omega)]; exact hlt)] at this
         exact ⟨_,this⟩
        obtain ⟨v9,fc⟩:=fc
        have ff:=hown.frozenAt i
        have HS9:=Lib.hid S9
        clear S9 hown
        go_upto_if 52 with fail
        go_cut [] from 52 to 57 (fun wx=>Hid (Dk.Sep W wx (rowS 38 1 (.slice (some ⟨g,0,none⟩) c.o.length pg) c.o.length (Tb.iv .u64 ((frsL s.cur st c i).set i (firstT s.cur st seg ((j+1:Nat):Int) c.l))) :: locI [(b0,45,csT sg st (some ⟨ca,oa,none⟩) c.o.length p (some ⟨cb,ob,none⟩) c.o.length q C c.o.length r)] :: itsC items ia ir ba F pf (f++a))∧Tb.Blk wx b4 93 #[.int .i64 seg,.int .i64 j]∧Tb.Blk wx b5 97 (recC rc)))
        case first =>
         by_cases hj0:(j:Int)=0
         ·have HX:Hid (Dk.Sep W (w9.setCell ⟨g,i,none⟩ (.int .u64 rc.l)) (rowS 38 1 (.slice (some ⟨g,0,none⟩) c.o.length pg) c.o.length (Tb.iv .u64 ((frsL s.cur st c i).set i (firstT s.cur st seg ((j+1:Nat):Int) c.l))) :: locI [(b0,45,csT sg st (some ⟨ca,oa,none⟩) c.o.length p (some ⟨cb,ob,none⟩) c.o.length q C c.o.length r)] :: itsC items ia ir ba F pf (f++a))∧Tb.Blk (w9.setCell ⟨g,i,none⟩ (.int .u64 rc.l)) b4 93 #[.int .i64 seg,.int .i64 j]∧Tb.Blk (w9.setCell ⟨g,i,none⟩ (.int .u64 rc.l)) b5 97 (recC rc)):=Lib.hid ⟨by
           have h3:=rows_put HS9.out (k:=0) rfl i rc.l
           rw [List.set_set] at h3
           rw [HFN.out,if_pos (by omega)]
           exact h3,Tb.blk_far L9 hgb.1.symm,Tb.blk_far K5 hgb.2.symm⟩
          clear HS9 L9 K5
          go_wp2_with fail
          go_meet
          exact HX
         ·have HX:Hid (Dk.Sep W w9 (rowS 38 1 (.slice (some ⟨g,0,none⟩) c.o.length pg) c.o.length (Tb.iv .u64 ((frsL s.cur st c i).set i (firstT s.cur st seg ((j+1:Nat):Int) c.l))) :: locI [(b0,45,csT sg st (some ⟨ca,oa,none⟩) c.o.length p (some ⟨cb,ob,none⟩) c.o.length q C c.o.length r)] :: itsC items ia ir ba F pf (f++a))∧Tb.Blk w9 b4 93 #[.int .i64 seg,.int .i64 j]∧Tb.Blk w9 b5 97 (recC rc)):=Lib.hid ⟨by
           rw [HFN.out,if_neg (by omega)]
           exact HS9.out,L9,K5⟩
          clear HS9 L9 K5 fc ff k0
          go_wp2_with fail
          go_meet
          exact HX
        case rest =>
         have HJ2:=Lib.hid (seg_next HJ.out.1 hra hn3)
         have k0' : wc.cell? ⟨b4,0,none⟩=some (.int .i64 seg):=hcut.out.2.1.cell 0
         have k1' : wc.cell? ⟨b4,1,none⟩=some (.int .i64 j):=hcut.out.2.1.cell 1
         have KR:=hcut.out.2.2
         have hlen1:(f++a).length<1000:=by
          have h3:=(segF_some HJ.out.1).1
          have h4:=reads_bound HR.out (fun i' hi'=>by
           have:=HOK.out.2.2.2.2.2.1 _ (Tb.nth_mem (l:=c.n) (i:=i') (by have:=HO3.out; omega))
           simp only at this
           omega)
          rw [List.length_append]
          omega
         have HF:=Lib.hid (found_any hcut.out.1 (ia:=ia+2) (ir:=ir+2) (its_a ha hne) (its_r hr hne) (by omega) hlen1 seg j rc)
         have wj:IntKind.i64.wrap ((j:Int)+1)=(j:Int)+1:=IntWalk.i64_in _ (by omega)
         clear k0 fc ff hra HFN HJ hgl hgb hcut
         go_wp2_with (with_reducible refine load_prr rfl (.tmp 13) rfl b5 rfl KR rfl ?_)
         refine HF.out.mono ?_
         rintro e' wd ⟨rfl,F',p',hS⟩
         have hS2:Dk.Sep W wd (rowS 38 1 (.slice (some ⟨g,0,none⟩) c.o.length pg) c.o.length (Tb.iv .u64 ((frsL s.cur st c i).set i (firstT s.cur st seg ((j+1:Nat):Int) c.l))) :: locI [(b0,45,csT sg st (some ⟨ca,oa,none⟩) c.o.length p (some ⟨cb,ob,none⟩) c.o.length q C c.o.length r)] :: (((itsC items ia ir ba F pf (f++a)).set ia (allI ba F' (f++a++[((seg,(j:Int)),rc)]).length p')).set ir (fndI F' p' (f++a++[((seg,(j:Int)),rc)])))):=hS
         rw [its_set hne,List.append_assoc] at hS2
         have HS2:=Lib.hid hS2
         clear hS hS2 HF KR k0' k1' k2
         go_wp2_with fail
         go_roundg (len.toNat-(j+1))
         case measure=>have:=HGJ.out; omega
         case rel=>exact ⟨j+1,a++[((seg,(j:Int)),rc)],F',p',by omega,rfl,by go_num,Lib.hid ⟨HJ2.out,HS2.out⟩⟩
    ·have HJN:=Lib.hid (show (j:Int)=len by omega)
     have HN:Hid (readsT s.cur st c.o c.n (i+1)=some (f++a)∧Dk.Sep W wr (rowS 38 1 (.slice (some ⟨g,0,none⟩) c.o.length pg) c.o.length (Tb.iv .u64 (frsL s.cur st c (i+1))) :: locI [(b0,45,csT sg st (some ⟨ca,oa,none⟩) c.o.length p (some ⟨cb,ob,none⟩) c.o.length q C c.o.length r)] :: itsC items ia ir ba F pf (f++a))):=Lib.hid ⟨by
      unfold readsT
      have e:(nth c.n i).toNat=j:=by rw [hlen.out]; have:=HJN.out; omega
      rw [HR.out,hseg.out,e,HJ.out.1],by
      rw [← frs_next hlt,hseg.out,hlen.out,← HJN.out]
      exact Sz⟩
     have wi:IntKind.i64.wrap ((i:Int)+1)=(i:Int)+1:=IntWalk.i64_in _ (by omega)
     clear Sz HJ
     go_wp2_with fail
     go_roundg (c.o.length-(i+1))
     case measure=>have:=HG.out; omega
     case rel=>exact ⟨i+1,f++a,F,pf,by omega,rfl,by go_num,HN⟩
  ·obtain rfl:i=c.o.length:=by omega
   have hlti:¬ ((c.o.length:Nat):Int)<(c.o.length:Int):=by omega
   have HE:Hid (readsT s.cur st c.o c.n c.o.length=some f∧Dk.Sep W wr (rowS 38 1 (.slice (some ⟨g,0,none⟩) c.o.length pg) c.o.length (Tb.iv .u64 (firstsT s.cur st c c.o.length)) :: itsC items ia ir ba F pf f)):=Lib.hid ⟨HI.out.1,by
    have:=sep_skip Sx
    rw [frs_all] at this
    exact this⟩
   clear HI Sx
   go_wp2_with fail
   go_ret2
   exact .inr ⟨f,HE.out.1,F,pf,_,pg,rfl,HE.out.2⟩
end Go.Proofs.YtcnohlgigmmefaaGreat.Ro
