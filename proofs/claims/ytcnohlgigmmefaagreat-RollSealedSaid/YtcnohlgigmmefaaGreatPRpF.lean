/- A part. -/
import Derived.Test.YtcnohlgigmmefaaGreatPRoY
import Derived.Test.YtcnohlgigmmefaaGreatPLgO
namespace Go.Proofs.YtcnohlgigmmefaaGreat.Ro
open Go.RowKit Go.Lib Wd
open Tb (Tab okP lastN nth)
open Dk (St)
open Lg (appS sealS sealIf chkS dropS footB secB chkB dropB LogP fmtE fmtD)
open Lg.Lg (bC bE S0 S0_eq S0_size nD NewL new_yes sc_may fix_okR)
set_option linter.unusedVariables false
set_option maxRecDepth 100000
theorem Wr.fold {ep:Int} {m0 m:Img} {L:List (Int × Rc.Rec)} (W:Wr ep m0 L m):m=L.foldl (fun a p=>putI a p.2) m0:=by
 induction W with
 | nil=>rfl
 | snoc W hr ih=>rw [List.foldl_append,← ih]; rfl
theorem scan_end {h:Held} {sg st:Int} {m:Img} (hsg:4≤sg∧sg≤16) (hst:1≤st∧st≤30) (hs:scanI h sg st=some m):stepI h m.c.e m=none:=by
 unfold scanI at hs
 split at hs
 ·rename_i hb
  split at hs
  ·cases hs
  ·rename_i f hf
   have ho:=(best_ok hb).1
   have hi:inT sg st (Cp.bestC (h 0).data.toList (h 1).data.toList) (Cp.bestC (h 0).data.toList (h 1).data.toList).o.length:=by
    unfold cntI at hf
    split at hf
    ·assumption
    ·cases hf
   have ok:=base_ok (h:=h) (f:=f) hsg hst ho hi
   injection hs with hs
   have h1:=run_end (h:=h) (ep:=(Cp.bestC (h 0).data.toList (h 1).data.toList).e) _ ok (Nat.le_refl _)
   have h2:=(run_ok (h:=h) (ep:=(Cp.bestC (h 0).data.toList (h 1).data.toList).e) (fuelI (baseI h sg st (Cp.bestC (h 0).data.toList (h 1).data.toList) f)) ok).2.2.2
   rw [hs] at h1 h2
   rw [h2]
   exact h1
 ·cases hs
theorem zero_sec:Cp.isSec Dk.zeroS.data.toList=false:=by
 cases h:Cp.isSec Dk.zeroS.data.toList with
 | false=>rfl
 | true =>
   have h1:=endG_is h
   rw [zero_end.2] at h1
   have h2:=((Cp.okC_iff _).1 ((Cp.isSec_iff _).1 h).1).1.1
   exact absurd h1.symm h2
theorem scan_new (n sg st:Int):scanI (St.new n).cur sg st=none:=by
 have e:∀ i,(St.new n).cur i=Dk.zeroS:=fun i=>rfl
 unfold scanI
 rw [e,e]
 have:Cp.bestE Dk.zeroS.data.toList Dk.zeroS.data.toList≠0:=by
  unfold Cp.bestE
  rw [if_pos ⟨zero_sec,zero_sec⟩]
  decide
 rw [if_neg this]
def fT0:Tab:=⟨4,2,[0],[0],[1]⟩
def fT1:Tab:=⟨4,2,[0],[1],[1]⟩
def fT2:Tab:=⟨4,2,[0],[2],[1]⟩
def fR1:Rc.Rec:=⟨1,1,1,1,9,(bC 97).data.toList,(bC 118).data.toList⟩
def fR2:Rc.Rec:=⟨2,1,1,2,9,(bC 98).data.toList,(bC 118).data.toList⟩
def fM0:Img:=⟨c0,fT0,1,0,[]⟩
def fM1:Img:=⟨c0,fT1,2,1,[((0,0),fR1)]⟩
theorem fR1_ok:Rc.Fits fR1∧Rc.okR fR1=true:=⟨⟨by decide,by decide,by decide,by decide,by decide,by decide,by decide,by decide⟩,fix_okR 1 1 1 9 97 (by decide) (by decide)⟩
theorem fR2_ok:Rc.Fits fR2∧Rc.okR fR2=true:=⟨⟨by decide,by decide,by decide,by decide,by decide,by decide,by decide,by decide⟩,fix_okR 2 1 2 9 98 (by decide) (by decide)⟩
theorem fbase (h:Held):baseI h 4 2 c0 []=fM0:=by
 have e:firstsT h 2 c0 c0.o.length=[1]:=rfl
 unfold baseI
 rw [e]
 rfl
theorem fw0:OkW 1 fM0 fR1:=⟨.inl ⟨by decide,by decide⟩,rfl,rfl,fR1_ok.1,fR1_ok.2,by decide⟩
theorem fput0:putI fM0 fR1=fM1:=rfl
theorem fw1:OkW 1 fM1 fR2:=⟨.inl ⟨by decide,by decide⟩,rfl,rfl,fR2_ok.1,fR2_ok.2,by decide⟩
theorem fplace:place fM0=2∧place fM1=3:=by decide
theorem fdisk {h:Held} (D:Disk1 4 2 h [] c0 [] [] (baseI h 4 2 c0 []) 0):Disk1 4 2 h [(2,secB fR1),(3,secB fR2)] c0 [] [(2,fR1),(3,fR2)] (putI fM1 fR2) 0:=by
 rw [fbase] at D
 have D1:=D.write fw0
 rw [fput0,fplace.1] at D1
 have D2:=D1.write fw1
 rw [fplace.2] at D2
 exact D2
theorem fend:stN 1 1≤endN (secB fR1).data.toList∧stN 1 1≤endN (secB fR2).data.toList:=by
 rw [← Lg.secB_eq,← Lg.secB_eq,end_sec fR1_ok.1 fR1_ok.2,end_sec fR2_ok.1 fR2_ok.2]
 exact ⟨Nat.le_refl _,by decide⟩
theorem fcrash0 {h h' : Held} (D:Disk1 4 2 h [(2,secB fR1),(3,secB fR2)] c0 [] [(2,fR1),(3,fR2)] (putI fM1 fR2) 0) (hs:∀ i,(∀ p∈[((2:Int),fR1),(3,fR2)],p.1≠i)→h' i=h i) (hw:∀ p∈[((2:Int),fR1),(3,fR2)],∃ q,h' p.1=Dk.mix q (secB p.2) (h p.1)) (h2:h' 2=h 2):Shut 4 2 h' c0 fM0:=by
 obtain ⟨L1,L2,m1,e,_,eb,W1,hd,S⟩:=D.crash hs hw
 rw [fbase h] at W1
 cases L1 with
 | nil =>
   rw [Wr.none W1 rfl] at S
   exact S
 | cons p L =>
   exfalso
   injection e with e1 e2
   have h3:=hd p (List.mem_cons_self ..)
   rw [← e1] at h3
   have h4:=D.rest.low 2 (by decide)
   rw [← h2,h3] at h4
   exact absurd fend.1 (Nat.not_le.2 h4)
theorem fcrash1 {h h' : Held} (D:Disk1 4 2 h [(2,secB fR1),(3,secB fR2)] c0 [] [(2,fR1),(3,fR2)] (putI fM1 fR2) 0) (hs:∀ i,(∀ p∈[((2:Int),fR1),(3,fR2)],p.1≠i)→h' i=h i) (hw:∀ p∈[((2:Int),fR1),(3,fR2)],∃ q,h' p.1=Dk.mix q (secB p.2) (h p.1)) (h2:h' 2=secB fR1) (h3:endN (h' 3).data.toList<stN 1 1):Shut 4 2 h' c0 fM1:=by
 obtain ⟨L1,L2,m1,e,_,eb,W1,hd,S⟩:=D.crash hs hw
 rw [fbase h] at W1
 match L1,e,W1,hd with
 | [],e,W1,hd =>
   exfalso
   rw [Wr.none W1 rfl] at S
   have h4:=scan_end ⟨by decide,by decide⟩ ⟨by decide,by decide⟩ S.scan
   have h5:=step_put (h:=h') fw0 (by rw [fplace.1,h2]; exact recOf_sec fR1_ok.1 fR1_ok.2)
   rw [show fM0.c.e=1 from rfl,h5] at h4
   cases h4
 | [p],e,W1,hd =>
   injection e with e1 e2
   subst e1
   have h6:m1=fM1:=by
    rw [W1.fold]
    exact fput0
   rw [h6] at S
   exact S
 | p :: q :: L,e,W1,hd =>
   exfalso
   injection e with e1 e2
   injection e2 with e2 e3
   have h4:=hd q (by simp)
   rw [← e2] at h4
   rw [show h' (3,fR2).1=h' 3 from rfl] at h4
   rw [h4] at h3
   exact absurd fend.2 (Nat.not_le.2 h3)
theorem cur_rest {s:St} (hp:s.pend=[]):s.cur=s.held:=by
 funext i
 unfold Dk.St.cur
 rw [hp]
 rfl
theorem goes_of {sg st:Int} {h:Held} {c:Cp.Chk} {m:Img} (S:Shut sg st h c m) (hg:c.g<9223372036854775807) (he:c.e+1<4294967296):Goes m:=by
 have h1:=S.rest.fs.g0
 have h2:=S.rest.fs.e0
 have e:=S.mc
 refine ⟨S.ok,S.ls,S.v,?_,?_⟩
 ·rw [e]; exact ⟨h2,he⟩
 ·rw [e]; exact ⟨h1,hg⟩
structure FixD (s0 s1 s2:St):Prop where
 f1:fmtE (St.new 14) 4 2 4607182418800017408 0 S0=0
 f2:fmtD (St.new 14) 4 2 4607182418800017408 0 S0=s0
 a1:appS fT0 s0 1 1 1 1 9 (bC 97) (bC 118)=(s1,fT1,2,0,0,0)
 a2:appS fT1 s1 2 1 1 2 9 (bC 98) (bC 118)=(s2,fT2,3,0,1,0)
 l0:LogP 0 fT0 s0 1 1
 l1:LogP 2 fT1 s1 2 1
 l2:LogP 4 fT2 s2 3 1
 set:s2.set=false
 pend:s2.pend=[(2,secB fR1),(3,secB fR2)]
 dk:Disk1 4 2 s2.held s2.pend c0 [] [(2,fR1),(3,fR2)] (putI fM1 fR2) 0
 size:s2.size=14
theorem fixd_any:∃ s0 s1 s2,FixD s0 s1 s2:=by
 have hm:Ck.MayC 4 2 4607182418800017408 0:=by decide
 have hsc:Ck.scC 4 2 4607182418800017408 0=14:=by unfold Ck.scC; rw [if_pos hm]; rfl
 obtain ⟨f1,N⟩:=new_yes hm (by decide) (by decide)
 rw [hsc] at f1
 have E0:fmtD (St.new 14) 4 2 4607182418800017408 0 S0=nD 4 2 4607182418800017408 0:=by unfold nD; rw [hsc]
 obtain ⟨s0,Es⟩:∃ z,nD 4 2 4607182418800017408 0=z:=⟨_,rfl⟩
 rw [Es] at N E0
 have l0:LogP 0 fT0 s0 1 1:=N.p
 have eC:S0=secC c0:=bytes_eq (by rw [secC_eq]; exact S0_eq.symm)
 have hE:chkS (St.new 14) 0 (secC c0)=(s0,1,0):=by
  have h1:=E0
  unfold fmtD at h1
  rw [if_pos hm,hsc,if_neg (by decide),eC] at h1
  rw [Lg.Lg.chk_free rfl] at h1 ⊢
  exact congrArg (fun z=>(z,(1:Int),(0:Int))) h1
 obtain ⟨_,_,hp,D0⟩:=new_disk (sg:=4) (st:=2) ⟨by decide,by decide⟩ ⟨by decide,by decide⟩ (n:=14) ⟨by decide,by decide⟩ hE
 rw [hp] at D0
 have a1:appS fT0 s0 1 1 1 1 9 (bC 97) (bC 118)=(s0.write 2 (secB fR1),fT1,2,0,0,0):=Lg.app_same (t:=fT0) N.set (by decide) (by decide) fR1_ok.2 (by decide)
 have l1:=Lg.app_p (ep:=1) (K:=1) (V:=1) (D:=9) (I:=bC 97) (X:=bC 118) l0
 rw [a1] at l1
 have a2:appS fT1 (s0.write 2 (secB fR1)) 2 1 1 2 9 (bC 98) (bC 118)=((s0.write 2 (secB fR1)).write 3 (secB fR2),fT2,3,0,1,0):=Lg.app_same (t:=fT1) N.set (by decide) (by decide) fR2_ok.2 (by decide)
 have l2:=Lg.app_p (ep:=1) (K:=1) (V:=2) (D:=9) (I:=bC 98) (X:=bC 118) l1
 rw [a2] at l2
 have hp2:((s0.write 2 (secB fR1)).write 3 (secB fR2)).pend=[(2,secB fR1),(3,secB fR2)]:=by
  show (s0.pend++[_])++[_]=_
  rw [hp]
  rfl
 refine ⟨s0,_,_,f1,E0,a1,a2,l0,l1,l2,N.set,hp2,?_,?_⟩
 ·rw [hp2]
  exact fdisk D0
 ·have:=N.size
  exact this
theorem two_crash {h:Held} {X Y:ByteArray} (hX:X.size=128) (hY:Y.size=128) (hh:∀ i,(h i).size=128) (keep:Nat→Bool) (torn:Int) (n:Nat) :
 (keep 0=false→torn≠0→Dk.crashTo keep torn n [(2,X),(3,Y)] h 2 2=h 2)∧(keep 0=true→Dk.crashTo keep torn n [(2,X),(3,Y)] h 2 2=X) ∧
 (keep 1=false→torn=1→Dk.crashTo keep torn n [(2,X),(3,Y)] h 2 3=Dk.mix n Y (h 3)):=by
 have h1:Dk.crashTo keep torn n [(2,X),(3,Y)] h 1 2=Dk.crashTo keep torn n [(2,X),(3,Y)] h 2 2:=by
  show _=(if keep 1 then Dk.do1 (Dk.crashTo keep torn n [(2,X),(3,Y)] h 1) (3,Y) 128 else if ((1:Nat):Int)=torn then Dk.do1 (Dk.crashTo keep torn n [(2,X),(3,Y)] h 1) (3,Y) n else Dk.crashTo keep torn n [(2,X),(3,Y)] h 1) 2
  split
  ·rfl
  ·split <;> rfl
 have h0:∀ i,Dk.crashTo keep torn n [(2,X),(3,Y)] h 1 i=(if keep 0 then Dk.do1 h (2,X) 128 else if ((0:Nat):Int)=torn then Dk.do1 h (2,X) n else h) i:=fun i=>rfl
 refine ⟨fun k0 ht=>?_,fun k0=>?_,fun k1 ht=>?_⟩
 ·rw [← h1,h0,k0,if_neg (by decide),if_neg (by intro e; exact ht e.symm)]
 ·rw [← h1,h0,k0,if_pos rfl]
  show Dk.mix 128 X (h 2)=X
  exact Dk.mix_all _ _ hX (hh 2)
 ·show (if keep 1 then Dk.do1 (Dk.crashTo keep torn n [(2,X),(3,Y)] h 1) (3,Y) 128 else if ((1:Nat):Int)=torn then Dk.do1 (Dk.crashTo keep torn n [(2,X),(3,Y)] h 1) (3,Y) n else Dk.crashTo keep torn n [(2,X),(3,Y)] h 1) 3=_
  rw [k1,if_neg (by decide),if_pos (by rw [ht]; rfl)]
  show Dk.mix n Y (Dk.crashTo keep torn n [(2,X),(3,Y)] h 1 3)=_
  rw [h0]
  split
  ·rfl
  ·split <;> rfl
theorem FixD.first {s0 s1 s2:St} (F:FixD s0 s1 s2) {keep:Nat→Bool} (k0:keep 0=false) (n:Nat):Shut 4 2 (s2.crash keep (-1) n).held c0 fM0:=by
 have D:=F.dk
 have hc:=D.crashTo keep (-1) n
 rw [F.pend] at D hc
 have h2:=(two_crash (Lg.secB_size fR1_ok.2) (Lg.secB_size fR2_ok.2) D.rest.sz keep (-1) n).1 k0 (by decide)
 have e:(s2.crash keep (-1) n).held=Dk.crashTo keep (-1) n [(2,secB fR1),(3,secB fR2)] s2.held 2:=by
  show Dk.crashTo keep (-1) n s2.pend s2.held s2.pend.length=_
  rw [F.pend]
  rfl
 rw [e]
 exact fcrash0 D hc.1 hc.2 h2
theorem FixD.second {s0 s1 s2:St} (F:FixD s0 s1 s2) {keep:Nat→Bool} (k0:keep 0=true) (k1:keep 1=false):Shut 4 2 (s2.crash keep 1 100).held c0 fM1:=by
 have D:=F.dk
 have hc:=D.crashTo keep 1 100
 rw [F.pend] at D hc
 obtain ⟨_,h2,h3⟩:=two_crash (Lg.secB_size fR1_ok.2) (Lg.secB_size fR2_ok.2) D.rest.sz keep 1 100
 have h2:=h2 k0
 have h3:=h3 k1 rfl
 have e:(s2.crash keep 1 100).held=Dk.crashTo keep 1 100 [(2,secB fR1),(3,secB fR2)] s2.held 2:=by
  show Dk.crashTo keep 1 100 s2.pend s2.held s2.pend.length=_
  rw [F.pend]
  rfl
 rw [e]
 refine fcrash1 D hc.1 hc.2 h2 ?_
 rw [h3,mix_list]
 unfold endN
 rw [mix_drop (len128 (Lg.secB_size fR2_ok.2)) (len128 (D.rest.sz 3)) 100 116 (by decide),show 100-116=0 from rfl,List.take_zero,List.drop_zero,List.nil_append]
 exact D.rest.low 3 (by decide)
theorem FixD.opens {s0 s1 s2:St} (F:FixD s0 s1 s2) {keep:Nat→Bool} (k0:keep 0=true) (k1:keep 1=false) {S:ByteArray} (hS:Cp.secL ⟨fM1.c.g+1,fM1.c.e+1,fM1.ls,fM1.v,fM1.t.o,fM1.t.l⟩=S.data.toList) :
 (chkS (s2.crash keep 1 100) fM1.c.g S).2.2=0∧∃ m,scanI (chkS (s2.crash keep 1 100) fM1.c.g S).1.cur 4 2=some m∧m.c.e=2∧m.f=[((0,0),fR1)]∧(chkS (s2.crash keep 1 100) fM1.c.g S).1.Good∧(chkS (s2.crash keep 1 100) fM1.c.g S).1.size=14∧(chkS (s2.crash keep 1 100) fM1.c.g S).1.pend=[]:=by
 have S1:=F.second k0 k1
 have eS:S=secC (nextC c0 fM1):=bytes_eq (by rw [← hS,secC_eq]; rfl)
 have G:(s2.crash keep 1 100).Good:=F.l2.good.crash keep 1 100
 have hz:(s2.crash keep 1 100).size=14:=F.size
 obtain ⟨s',hs'⟩:∃ z,chkS (s2.crash keep 1 100) 1 (secC (nextC c0 fM1))=z:=⟨_,rfl⟩
 have hE:chkS (s2.crash keep 1 100) c0.g (secC (nextC c0 fM1))=(s'.1,s'.2.1,s'.2.2):=hs'
 have hO:=(S1.opened rfl G (by rw [hz]; decide) (by decide) (by decide) hE).1
 rw [eS,show fM1.c.g=1 from rfl,hs']
 rcases hO with ⟨h0,_,D⟩ | ⟨_,h9⟩
 ·have hp:s'.1.pend=[]:=D.pend
  rw [hp] at D
  have SH:=D.shut
  have hgood:s'.1.Good∧s'.1.size=14:=by
   have h5:=hE
   rw [Lg.Lg.chk_free rfl] at h5
   injection h5 with h5 _
   rw [← h5]
   have g1:=G.flush (Lg.not_dead (s:=s2.crash keep 1 100) rfl)
   have okc:Cp.okC (nextC c0 fM1)=true:=by decide
   have g2:=g1.write (Lg.not_dead (s:=(s2.crash keep 1 100).flush) rfl) (i:=(c0.g+1)%2) (x:=secC (nextC c0 fM1)) ⟨by decide,by show (c0.g+1)%2<s2.size; rw [F.size]; decide⟩ (secC_size okc)
   exact ⟨g2.flush (Lg.not_dead rfl),F.size⟩
  refine ⟨h0,baseI s'.1.held 4 2 (nextC c0 fM1) fM1.f,?_,?_,?_,hgood.1,hgood.2,hp⟩
  ·rw [cur_rest hp]
   exact SH.scan
  ·rfl
  ·rfl
 ·exact absurd h9 (by show ¬ false=true; decide)
end Go.Proofs.YtcnohlgigmmefaaGreat.Ro
namespace Go.Proofs.YtcnohlgigmmefaaGreat.Lg
open Go.RowKit Go.Lib
set_option linter.unusedVariables false
set_option maxRecDepth 100000
namespace Lg
open Go.RowKit Go.Lib
open Tb (Tab TIn Sl okP csT lastN nth Fresh)
open Dk (St Only Grew)
set_option linter.unusedVariables false
set_option maxRecDepth 100000
theorem res_recp1 {fn:Func} {p' : Tmp} (h:fn.results=#[.cell p' 97]) (tmps:Array Value) (W:World) (b:Nat) {cs:Array Value} {t:TypeId} (hp:tmps.getD p' undef=.pointer (some ⟨b,0,none⟩)) (L:Tb.Blk W b t cs) (hs:cs.size=7) :
 (results fn tmps).run Tryz.prog W=.ok (.agg cs) W :=
 results_cell_row h tmps W b t cs (0,0) _ hp L Tryz.underlying97 rfl (by rw [hs]; exact info_recp)
section
variable {w:World}
end
theorem app_fix {W w:World} {items:List Dk.Item} {g d c:Nat} {s s' : St} {t t' : Tab} {ls gn ls' sg so er:Int} (h:Dk.Sep W w (Dk.diskI d s :: PLog g d t ls 1 gn :: items)) (K V D:Int) (I X:ByteArray) (hP:LogP c t s ls gn) (hc:c≤1000) (hA:appS t s ls 1 K V D I X=(s',t',ls',sg,so,er)) (he:er≠9) (l0 e0:Int)
 (hV:0≤V∧V<18446744073709551616) (hD:0≤D∧D<18446744073709551616) (hI:I.size≤1000) (hX:X.size≤1000) :
 Calls Tryz.prog 37 #[.pointer (some ⟨g,0,none⟩),.agg #[.int .u64 l0,.int .u32 e0,.int .i64 K,.int .u64 V,.int .u64 D,.string I,.string X]] w fun e w'=>e=.returned (.tuple #[.agg #[.int .i64 sg,.int .i64 so],.int .i64 er])∧Dk.Sep W w' (Dk.diskI d s' :: PLog g d t' ls' 1 gn :: items):=by
 have g1:=hP.ls1
 have g2:=hP.ls2
 have g3:=hP.pend
 have H:=prg.app h (k:=0) (j:=1) rfl rfl (by decide) l0 e0 K V D I X (by omega) ⟨by decide,by decide⟩ hV hD (by unfold maxLen; omega) (by unfold maxLen; omega) hP.ok hP.fit (by omega)
 rw [hA] at H
 refine H.mono ?_
 rintro e w' ⟨h1,it,h2,h3⟩
 rw [h3 he] at h2
 exact ⟨h1,h2⟩
end Lg
namespace Lg
open Go.RowKit Go.Lib
open Tb (Tab TIn Sl okP csT lastN nth Fresh)
open Dk (St Only Grew)
set_option linter.unusedVariables false
set_option maxRecDepth 100000
structure Again (k Z:Int) (i:Nat) (t:Tab) (s:St) (ls:Int):Prop where
 p:LogP (100+2*i) t s ls 2
 set:s.set=false
 st:t.st=Z
 z:1≤Z∧Z≤5
 at_:(i=0∧lastN t.l=t.st∧Tb.freeT t=[k])∨(0<i∧lastN t.o=k∧lastN t.l=i∧Tb.freeT t=[])
theorem free_len1 {t:Tab} (hok:okP t):Tb.roomT t=t.st-lastN t.l+t.st*(Tb.freeT t).length:=by
 have:=Tb.ok_free hok
 unfold Tb.roomT
 rw [show t.sg-(t.o.length:Int)=((Tb.freeT t).length:Int) by omega]
theorem Again.room {k Z ls:Int} {i:Nat} {t:Tab} {s:St} (h:Again k Z i t s ls):Tb.roomT t=Z-i:=by
 rw [free_len1 h.p.ok]
 rcases h.at_ with ⟨h1,h2,h3⟩ | ⟨h1,h2,h3,h4⟩
 ·rw [h2,h3,h.st,h1]
  simp
 ·rw [h3,h4,h.st]
  simp
theorem Again.next {k Z ls K V D:Int} {I X:ByteArray} {i:Nat} {t:Tab} {s:St} (h:Again k Z i t s ls) (hi:(i:Int)<Z) (hK:K≠3) (hR:Rc.okR ⟨ls,1,K,V,D,I.data.toList,X.data.toList⟩=true) :
 ∃ s1 t1 l1,appS t s ls 1 K V D I X=(s1,t1,l1,k,(i:Int),0)∧Again k Z (i+1) t1 s1 l1:=by
 have hr:0<Tb.roomT t:=by have:=h.room; omega
 have hA:=(app_p (ep:=1) (K:=K) (V:=V) (D:=D) (I:=I) (X:=X) h.p).le (c':=100+2*(i+1)) (by omega)
 have hz:=h.z
 have hst:=h.st
 have hl1:=h.p.ok.2.2.1
 have hll:=h.p.ok.2.2.2.2.2.2.1
 rcases h.at_ with ⟨h1,h2,h3⟩ | ⟨h1,h2,h3,h4⟩
 ·have E:=app_roll2 (ep:=1) (not_dead h.set) (fun i S=>not_dead h.set) hr hK hR h2 h3
  rw [E] at hA
  subst h1
  refine ⟨_,_,_,E,hA,h.set,hst,hz,.inr ⟨by omega,Tb.last_app ..,?_,?_⟩⟩
  ·show lastN ((Tb.openedT t k (ls+1)).l.set _ _)=_
   rw [Tb.last_set _ _ (by show 1≤(t.l++[0]).length; simp)]
   have e2:lastN (Tb.openedT t k (ls+1)).l=0:=Tb.last_app ..
   rw [e2]
   rfl
  ·have e1:=Tb.ok_free h.p.ok
   have e2:((Tb.freeT (Tb.countedT (Tb.openedT t k (ls+1)))).length:Int)+(Tb.countedT (Tb.openedT t k (ls+1))).o.length=(Tb.countedT (Tb.openedT t k (ls+1))).sg:=Tb.ok_free hA.ok
   rw [h3] at e1
   have e3:(Tb.countedT (Tb.openedT t k (ls+1))).sg=t.sg:=rfl
   have e4:(Tb.countedT (Tb.openedT t k (ls+1))).o.length=t.o.length+1:=by show (t.o++[k]).length=_; simp
   simp at e1
   exact List.eq_nil_of_length_eq_zero (by omega)
 ·have E:=app_same2 (ep:=1) (not_dead h.set) hr hK hR (by omega)
  rw [E,h2,h3] at hA
  rw [h2,h3] at E
  refine ⟨_,_,_,E,hA,h.set,hst,hz,.inr ⟨by omega,h2,?_,?_⟩⟩
  ·show lastN (t.l.set _ _)=_
   rw [Tb.last_set _ _ (by omega),h3]
   rfl
  ·exact h4
structure AllS (G Z:Int) (a x:Nat) (t:Tab) (s:St) (ls:Int):Prop where
 p:LogP (12*a+2*x) t s ls 1
 set:s.set=false
 st:t.st=Z
 sg:t.sg=G
 z:1≤Z∧Z≤5
 g:4≤G∧G≤6
 ag:(a:Int)<G
 xz:(x:Int)≤Z
 o:t.o=Tb.upto (a+1)
 last:lastN t.l=x
 all:∀ p q:Int,p∈t.o→0≤q→q<Tb.lenT t p→∃ r,Stands t s ((p,q),r)∧r.v=p*100+q
theorem len_counted_ne {t:Tab} {x:Int} (hok:okP t) (hok2:okP (Tb.countedT t)) (hx:x∈t.o) (hne:x≠lastN t.o):Tb.lenT (Tb.countedT t) x=Tb.lenT t x:=by
 obtain ⟨i,hi,rfl⟩:=mem_at hx
 have h2:=hok.2.2.2.2.2.2.1
 have e:=len_at hok2 (i:=i) hi
 have e1:nth (Tb.countedT t).o i=nth t.o i:=rfl
 rw [e1] at e
 rw [e,len_at hok hi]
 show nth (t.l.set (t.l.length-1) (lastN t.l+1)) i=nth t.l i
 rw [nth_set_ne]
 intro h
 apply hne
 unfold lastN
 rw [← h,← h2]
theorem AllS.last_o {G Z ls:Int} {a x:Nat} {t:Tab} {s:St} (h:AllS G Z a x t s ls):lastN t.o=a:=by
 rw [h.o,Tb.upto_succ,Tb.last_app]
theorem AllS.room {G Z ls:Int} {a x:Nat} {t:Tab} {s:St} (h:AllS G Z a x t s ls) (hx:(x:Int)<Z):0<Tb.roomT t:=by
 rw [free_len1 h.p.ok,h.last,h.st]
 have:=Int.mul_nonneg (show 0≤Z by have:=h.z; omega) (show 0≤((Tb.freeT t).length:Int) by omega)
 omega
theorem AllS.next {G Z ls D:Int} {I X:ByteArray} {a x:Nat} {t:Tab} {s:St} (h:AllS G Z a x t s ls) (hx:(x:Int)<Z) (hD:0≤D∧D<18446744073709551616) (hR:Rc.okR ⟨ls,1,1,(a:Int)*100+x,D,I.data.toList,X.data.toList⟩=true) :
 ∃ s1 t1 l1,appS t s ls 1 1 ((a:Int)*100+x) D I X=(s1,t1,l1,(a:Int),(x:Int),0)∧AllS G Z a (x+1) t1 s1 l1:=by
 have hr:=h.room hx
 have hz:=h.z
 have hg:=h.g
 have hag:=h.ag
 have hst:=h.st
 have hla:=h.last
 have hl:lastN t.l≠t.st:=by omega
 have E:=app_same2 (ep:=1) (not_dead h.set) hr (by decide:(1:Int)≠3) hR hl
 have hA:=(app_p (ep:=1) (K:=1) (V:=(a:Int)*100+x) (D:=D) (I:=I) (X:=X) h.p).le (c':=12*a+2*(x+1)) (by omega)
 have b1:=h.p.ls1
 have b2:=h.p.ls2
 have hn:=put_new (ls:=ls) (ep:=1) (K:=1) (V:=(a:Int)*100+x) (D:=D) (I:=I) (X:=X) h.p.ok hl (not_dead h.set) ⟨by simp only; omega,by simp only; omega,by show (0:Int)≤1; decide,by show (1:Int)<4294967296; decide,by simp only; omega,by simp only; omega,hD.1,hD.2⟩ hR
 have hE2:appS.putS t s ls 1 1 ((a:Int)*100+x) D I X=(s.write (Tb.sectorT t.st (lastN t.o) (lastN t.l)) (secB ⟨ls,1,1,(a:Int)*100+x,D,I.data.toList,X.data.toList⟩),Tb.countedT t,ls+1,lastN t.o,lastN t.l,0):=by
  unfold appS.putS
  rw [if_neg (not_dead h.set)]
 rw [hE2] at hn
 have hold:∀ y,Stands t s y→Stands (Tb.countedT t) (s.write (Tb.sectorT t.st (lastN t.o) (lastN t.l)) (secB ⟨ls,1,1,(a:Int)*100+x,D,I.data.toList,X.data.toList⟩)) y:=fun y hy=>by
  have:=put_stands (ls:=ls) (ep:=1) (K:=1) (V:=(a:Int)*100+x) (D:=D) (I:=I) (X:=X) hy h.p.ok hl
  rw [hE2] at this
  exact this
 rw [E] at hA
 have hlo:=h.last_o
 have hlp:=len_put h.p.ok hA.ok
 rw [hlo,hla] at hn
 refine ⟨_,_,_,by rw [E,hlo,hla],?_⟩
 rw [hlo,hla] at hold hA
 refine ⟨hA,h.set,hst,h.sg,hz,hg,hag,by omega,h.o,?_,fun p q hp hq hlt=>?_⟩
 ·show lastN (t.l.set _ _)=_
  rw [Tb.last_set _ _ (by have:=h.p.ok.2.2.1; have:=h.p.ok.2.2.2.2.2.2.1; omega),hla]
  rfl
 ·have hp' : p∈t.o:=hp
  by_cases hpe:p=lastN t.o
  ·by_cases hqx:q=x
   ·refine ⟨⟨ls,1,1,(a:Int)*100+x,D,I.data.toList,X.data.toList⟩,?_,?_⟩
    ·rw [hpe,hlo,hqx]
     exact hn
    ·show (a:Int)*100+x=p*100+q
     rw [hpe,hlo,hqx]
   ·rw [hpe,hlp,hla] at hlt
    obtain ⟨r,h1,h2⟩:=h.all p q hp' hq (by rw [hpe,len_last h.p.ok,hla]; omega)
    exact ⟨r,hold _ h1,h2⟩
  ·rw [len_counted_ne h.p.ok hA.ok hp' hpe] at hlt
   obtain ⟨r,h1,h2⟩:=h.all p q hp' hq hlt
   exact ⟨r,hold _ h1,h2⟩
theorem AllS.seal {G Z ls:Int} {a x:Nat} {t:Tab} {s:St} (h:AllS G Z a x t s ls) (ha:(a:Int)+1<G) :
 ∃ s1 t1 l1,sealS t s ls (footB t ls 1)=(s1,t1,l1,0)∧AllS G Z (a+1) 0 t1 s1 l1:=by
 have hz:=h.z
 have hg:=h.g
 have hxz:=h.xz
 have hsg:=h.sg
 obtain ⟨l,hf⟩:∃ l,Tb.freeT t=((a+1:Nat):Int) :: l:=by
  unfold Tb.freeT
  rw [h.o]
  exact free_upto (by omega)
 have E:sealS t s ls (footB t ls 1)=(s.write (Tb.sectorT t.st (lastN t.o) (lastN t.l)) (footB t ls 1),Tb.openedT t ((a+1:Nat):Int) (ls+1),ls+1,0):=by
  unfold sealS
  simp only [hf]
  rw [if_neg (not_dead h.set)]
 have hp:=(seal_p h.p (S:=footB t ls 1) fun f l hf=>footB_size h.p.ok h.p.ls1 hf).le (c':=12*(a+1)+2*0) (by omega)
 have hS:∀ y,Stands t s y→Stands (sealS t s ls (footB t ls 1)).2.1 (sealS t s ls (footB t ls 1)).1 y:=fun y hy=>seal_stands hy h.p.ok
 rw [E] at hp hS
 refine ⟨_,_,_,E,hp,h.set,h.st,hsg,hz,hg,by omega,by omega,?_,?_,fun p q hp1 hq hlt=>?_⟩
 ·show t.o++[_]=_
  rw [h.o,Tb.upto_succ (a+1)]
 ·exact Tb.last_app ..
 ·have hp2:p∈t.o++[((a+1:Nat):Int)]:=hp1
  rw [List.mem_append] at hp2
  rcases hp2 with h1|h1
  ·rw [len_opened h.p.ok hp.ok h1] at hlt
   obtain ⟨r,h3,h4⟩:=h.all p q h1 hq hlt
   exact ⟨r,hS _ h3,h4⟩
  ·exfalso
   have e:=len_last hp.ok
   have e1:lastN (Tb.openedT t ((a+1:Nat):Int) (ls+1)).o=((a+1:Nat):Int):=Tb.last_app ..
   have e2:lastN (Tb.openedT t ((a+1:Nat):Int) (ls+1)).l=0:=Tb.last_app ..
   rw [e1,e2] at e
   rw [List.mem_singleton] at h1
   rw [h1,e] at hlt
   omega
theorem AllS.done {G Z ls:Int} {a x:Nat} {t:Tab} {s:St} (h:AllS G Z a x t s ls) (ha:(a:Int)+1=G):Tb.freeT t=[]∧sealS t s ls (footB t ls 1)=(s,t,ls,10):=by
 have h1:=Tb.ok_free h.p.ok
 have hsg:=h.sg
 rw [h.o,upto_len] at h1
 have hf:Tb.freeT t=[]:=List.eq_nil_of_length_eq_zero (by omega)
 refine ⟨hf,?_⟩
 unfold sealS
 simp only [hf]
theorem live_ok {ls v:Int} {c:UInt8} (hls:ls≠0) (hc:Rc.okR ⟨1,1,1,0,9,[c],[118]⟩=true):Rc.okR ⟨ls,1,1,v,9,(bC c).data.toList,(bC 118).data.toList⟩=true:=by
 rw [Rc.okR_iff] at hc ⊢
 refine ⟨hls,?_⟩
 rcases hc.2 with h|h|h
 ·exact .inl h
 ·exact absurd h.1 (show ¬ (1:Int)=2 by decide)
 ·exact absurd h.1 (show ¬ (1:Int)=3 by decide)
end Lg
namespace Lg
open Go.RowKit Go.Lib
open Tb (Tab TIn Sl okP csT lastN nth Fresh)
open Dk (St Only Grew)
set_option linter.unusedVariables false
set_option maxRecDepth 100000
section
variable {W w:World} {items:List Dk.Item} {g d c:Nat} {s:St} {t:Tab} {ls gn:Int}
theorem seal_fix {s' : St} {t' : Tab} {ls' er:Int} (h:Dk.Sep W w (Dk.diskI d s :: PLog g d t ls 1 gn :: items)) (hP:LogP c t s ls gn) (hc:c≤1000) (hA:sealS t s ls (footB t ls 1)=(s',t',ls',er)) (he:er≠9) :
 Calls Tryz.prog 48 #[.pointer (some ⟨g,0,none⟩)] w fun e w'=>e=.returned (.int .i64 er)∧Dk.Sep W w' (Dk.diskI d s' :: PLog g d t' ls' 1 gn :: items):=by
 have g1:=hP.ls1
 have g2:=hP.ls2
 have g3:=hP.pend
 have H:=prg.sealc h (k:=0) (j:=1) rfl rfl (by decide) (by omega) ⟨by decide,by decide⟩ hP.ok hP.fit (by omega)
 rw [hA] at H
 refine H.mono ?_
 rintro e w' ⟨h1,it,h2,h3⟩
 rw [h3 he] at h2
 exact ⟨h1,h2⟩
theorem app_live {s' : St} {t' : Tab} {ls' sg so er v:Int} {x:UInt8} (h:Dk.Sep W w (Dk.diskI d s :: PLog g d t ls 1 gn :: items)) (hP:LogP c t s ls gn) (hc:c≤1000) (hA:appS t s ls 1 1 v 9 (bC x) (bC 118)=(s',t',ls',sg,so,er)) (he:er≠9) (hv:0≤v∧v<18446744073709551616) :
 Calls Tryz.prog 37 #[.pointer (some ⟨g,0,none⟩),.agg #[.int .u64 0,.int .u32 0,.int .i64 1,.int .u64 v,.int .u64 9,.string ⟨#[x]⟩,.string ⟨#[118]⟩]] w fun e w'=>e=.returned (.tuple #[.agg #[.int .i64 sg,.int .i64 so],.int .i64 er])∧Dk.Sep W w' (Dk.diskI d s' :: PLog g d t' ls' 1 gn :: items) :=
 app_fix h 1 v 9 (bC x) (bC 118) hP hc hA he 0 0 hv ⟨by decide,by decide⟩ (by show 1≤1000; decide) (by show 1≤1000; decide)
end
end Lg
namespace Lg
open Go.RowKit Go.Lib
open Tb (Tab TIn Sl okP csT lastN nth Fresh)
open Dk (St Only Grew)
set_option linter.unusedVariables false
set_option maxRecDepth 100000
section
variable {w:World} {t:Tab} {A:Option Addr} {m p:Nat} {B:Option Addr} {k q:Nat} {C:Option Addr} {n r:Nat}
end
end Lg
end Go.Proofs.YtcnohlgigmmefaaGreat.Lg
