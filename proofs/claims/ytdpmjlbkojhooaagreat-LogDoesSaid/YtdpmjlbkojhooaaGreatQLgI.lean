/- A part. -/
import Derived.Test.YtdpmjlbkojhooaaGreatQLgF
import Derived.Test.YtdpmjlbkojhooaaGreatQLgH
namespace Go.Proofs.YtdpmjlbkojhooaaGreat.Lg
open Go.RowKit Go.Lib
open Tb (Tab TIn Sl okP csT lastN nth Fresh)
open Dk (St Only Grew)
set_option linter.unusedVariables false
theorem secB_size {r:Rc.Rec} (h:Rc.okR r=true):(secB r).size=128:=(size_of (secB_eq r)).trans (Rc.secL_len h)
theorem foot_ok {ls ep f:Int} (hls:1≤ls) (hf:f<16):Rc.okR ⟨ls,ep,3,0,f,[],[]⟩=true:=by
 rw [Rc.okR_iff]
 exact ⟨by simp only; omega,.inr (.inr ⟨rfl,rfl,rfl,rfl,hf⟩)⟩
theorem footB_size {t:Tab} {ls ep f:Int} {l:List Int} (hok:okP t) (hls:1≤ls) (h:Tb.freeT t=f :: l):(footB t ls ep).size=128:=by
 have hi:=Tb.free_in (t:=t) (s:=f) (by rw [h]; exact List.mem_cons_self ..) (by have:=hok.1; omega)
 have:=hok.1
 unfold footB
 rw [h]
 exact secB_size (foot_ok hls (by omega))
structure LogP (c:Nat) (t:Tab) (s:St) (ls gn:Int):Prop where
 ok:okP t
 fit:FitS t s
 good:s.Good
 ls1:1≤ls
 ls2:ls≤1+c
 gn1:0≤gn
 gn2:gn≤1+c
 pend:s.pend.length≤c
section
variable {c c' : Nat} {t:Tab} {s:St} {ls gn ep:Int} {S:ByteArray}
theorem LogP.size2 (h:LogP c t s ls gn):2≤s.size:=by
 have h1:=h.fit
 unfold FitS at h1
 have h2:=h.ok.1
 have h3:=h.ok.2.1
 have:=Int.mul_nonneg (show 0≤t.sg by omega) (show 0≤t.st+1 by omega)
 omega
theorem LogP.le (h:LogP c t s ls gn) (hc:c≤c'):LogP c' t s ls gn :=
 ⟨h.ok,h.fit,h.good,h.ls1,by have:=h.ls2; omega,h.gn1,by have:=h.gn2; omega,Nat.le_trans h.pend hc⟩
theorem chk_p (h:LogP c t s ls gn) (hS:S.size=128):LogP (c+1) t (chkS s gn S).1 ls (chkS s gn S).2.1:=by
 have hz:=h.size2
 have g1:=h.gn1
 have g2:=h.gn2
 unfold chkS
 split
 ·exact h.le (by omega)
 ·rename_i hd
  have hfl:=h.good.flush hd
  split
  ·exact ⟨h.ok,h.fit,hfl,h.ls1,by have:=h.ls2; omega,g1,by simp only; omega,by show ([]:List (Int × ByteArray)).length≤_; simp⟩
  ·rename_i hd1
   have hw:=hfl.write hd1 (i:=(gn+1)%2) (x:=S) ⟨by omega,by show _<s.size; omega⟩ hS
   split
   ·exact ⟨h.ok,h.fit,hw,h.ls1,by have:=h.ls2; omega,g1,by simp only; omega,by show ([]++[_]:List (Int × ByteArray)).length≤_; simp⟩
   ·rename_i hd2
    exact ⟨h.ok,h.fit,hw.flush hd2,h.ls1,by have:=h.ls2; omega,by simp only; omega,by simp only; omega,by show ([]:List (Int × ByteArray)).length≤_; simp⟩
theorem drop_p {x:Int} (h:LogP c t s ls gn) (hS:∀ u,Tb.dropT t x=some u→S.size=128):LogP (c+1) (dropS t x s gn S).2.1 (dropS t x s gn S).1 ls (dropS t x s gn S).2.2.1:=by
 unfold dropS
 split
 ·exact h.le (by omega)
 ·rename_i u hu
  have hk:=chk_p h (hS u hu)
  have hst:u.st=t.st∧u.sg=t.sg:=by
   unfold Tb.dropT at hu
   split at hu
   ·cases hu
   ·injection hu with hu; subst hu; exact ⟨rfl,rfl⟩
  exact ⟨Tb.drop_ok h.ok hu,by have:=hk.fit; unfold FitS at this ⊢; rw [hst.1,hst.2]; exact this,hk.good,hk.ls1,hk.ls2,hk.gn1,hk.gn2,hk.pend⟩
theorem seal_p (h:LogP c t s ls gn) (hS:∀ f l,Tb.freeT t=f :: l→S.size=128):LogP (c+1) (sealS t s ls S).2.1 (sealS t s ls S).1 (sealS t s ls S).2.2.1 gn:=by
 have g1:=h.ls1
 have g2:=h.ls2
 unfold sealS
 split
 ·exact h.le (by omega)
 ·rename_i f l hfr
  split
  ·exact h.le (by omega)
  ·rename_i hd
   exact ⟨Tb.opened_ok h.ok (by rw [hfr]; exact List.mem_cons_self ..),h.fit,h.good.write hd (has_open h.ok h.fit) (hS f l hfr),by simp only; omega,by simp only; omega,h.gn1,by have:=h.gn2; omega,by show (s.pend++[_]).length≤_; have:=h.pend; simp; omega⟩
theorem sealIf_p (h:LogP c t s ls gn):LogP (c+1) (sealIf t s ls ep).2.1 (sealIf t s ls ep).1 (sealIf t s ls ep).2.2.1 gn:=by
 unfold sealIf
 split
 ·exact seal_p h fun f l hf=>footB_size h.ok h.ls1 hf
 ·exact h.le (by omega)
theorem sealIf_room (hok:okP t) (he:(sealIf t s ls ep).2.2.2=0):lastN (sealIf t s ls ep).2.1.l≠(sealIf t s ls ep).2.1.st:=by
 unfold sealIf at he ⊢
 split
 ·rename_i hf
  rw [if_pos hf] at he
  unfold sealS at he ⊢
  split
  ·rename_i hfr
   simp only [hfr] at he
   exact absurd he (by simp)
  ·rename_i f l hfr
   simp only [hfr] at he
   split
   ·rename_i hd
    rw [if_pos hd] at he
    exact absurd he (by simp)
   ·exact opened_count hok
 ·rename_i hf
  exact hf
def chkB (t:Tab) (gn ep ls ver:Int):ByteArray:=⟨(Cp.secL ⟨gn+1,ep,ls,ver,t.o,t.l⟩).toArray⟩
theorem chkB_eq (t:Tab) (gn ep ls ver:Int):Cp.secL ⟨gn+1,ep,ls,ver,t.o,t.l⟩=(chkB t gn ep ls ver).data.toList:=by simp [chkB]
theorem chkB_size {ver:Int} (hok:okP t) (hg:0≤gn) (hl:1≤ls):(chkB t gn ep ls ver).size=128:=(size_of (chkB_eq t gn ep ls ver)).trans (Cp.secL_len (okC_of hok (by omega) (by omega)))
def dropB (t:Tab) (x gn ep ls ver:Int):ByteArray:=match Tb.dropT t x with
 | none=>ByteArray.empty
 | some u=>chkB u gn ep ls ver
theorem dropB_eq {x ver:Int} {u:Tab} (h:Tb.dropT t x=some u):Cp.secL ⟨gn+1,ep,ls,ver,u.o,u.l⟩=(dropB t x gn ep ls ver).data.toList:=by
 unfold dropB; rw [h]; exact chkB_eq ..
theorem dropB_size {x ver:Int} {u:Tab} (hok:okP t) (hg:0≤gn) (hl:1≤ls) (h:Tb.dropT t x=some u):(dropB t x gn ep ls ver).size=128:=by
 unfold dropB; rw [h]; exact chkB_size (Tb.drop_ok hok h) hg hl
variable {K V D:Int} {I X:ByteArray}
theorem put_p (h:LogP c t s ls gn) (hr:lastN t.l≠t.st) (hR:Rc.okR ⟨ls,ep,K,V,D,I.data.toList,X.data.toList⟩=true):LogP (c+1) (appS.putS t s ls ep K V D I X).2.1 (appS.putS t s ls ep K V D I X).1 (appS.putS t s ls ep K V D I X).2.2.1 gn:=by
 have g1:=h.ls1
 have g2:=h.ls2
 unfold appS.putS
 split
 ·exact h.le (by omega)
 ·rename_i hd
  exact ⟨Tb.count_ok h.ok (count_yes hr),h.fit,h.good.write hd (has_open h.ok h.fit) (secB_size hR),by simp only; omega,by simp only; omega,h.gn1,by have:=h.gn2; omega,by show (s.pend++[_]).length≤_; have:=h.pend; simp; omega⟩
theorem okR_stamp {l l' e e' : Int} {i a:List UInt8} (hl:l≠0) (h:Rc.okR ⟨l',e',K,V,D,i,a⟩=true):Rc.okR ⟨l,e,K,V,D,i,a⟩=true:=by
 rw [Rc.okR_iff] at h ⊢
 exact ⟨hl,h.2⟩
theorem app_p (h:LogP c t s ls gn):LogP (c+2) (appS t s ls ep K V D I X).2.1 (appS t s ls ep K V D I X).1 (appS t s ls ep K V D I X).2.2.1 gn:=by
 have hs:=sealIf_p (ep:=ep) h
 unfold appS
 split
 ·exact h.le (by omega)
 ·rename_i hk
  split
  ·exact h.le (by omega)
  ·split
   ·exact hs.le (by omega)
   ·rename_i he
    have he:(sealIf t s ls ep).2.2.2=0:=by omega
    refine put_p hs (sealIf_room h.ok he) (okR_stamp (by have:=hs.ls1; omega) (l':=ls) (e':=ep) ?_)
    cases hb:Rc.okR ⟨ls,ep,K,V,D,I.data.toList,X.data.toList⟩ with
    | true=>rfl
    | false=>exact absurd (.inr hb) hk
end
theorem cur_write (s:St) (i j:Int) (S:ByteArray):(s.write i S).cur j=if i=j then S else s.cur j:=Dk.over_snoc ..
theorem sector_inj {st a b x y:Int} (hs:1≤st∧st≤30) (ha:0≤a∧a≤15) (hb:0≤b∧b≤15) (hx:0≤x∧x≤st) (hy:0≤y∧y≤st) (h:Tb.sectorT st a x=Tb.sectorT st b y):a=b∧x=y:=by
 unfold Tb.sectorT at h
 rw [if_pos ⟨hs.1,hs.2,ha.1,ha.2,hx.1,hx.2⟩,if_pos ⟨hs.1,hs.2,hb.1,hb.2,hy.1,hy.2⟩] at h
 rcases Int.lt_trichotomy a b with h1|h1|h1
 ·have:=Int.mul_le_mul_of_nonneg_right (show a+1≤b by omega) (show 0≤st+1 by omega)
  rw [Int.add_mul,Int.one_mul] at this
  omega
 ·subst h1
  exact ⟨rfl,by omega⟩
 ·have:=Int.mul_le_mul_of_nonneg_right (show b+1≤a by omega) (show 0≤st+1 by omega)
  rw [Int.add_mul,Int.one_mul] at this
  omega
theorem len_at {t:Tab} (hok:okP t) {i:Nat} (hi:i<t.o.length):Tb.lenT t (nth t.o i)=nth t.l i:=by
 have e:Tb.idx t.o (nth t.o i)=i:=by
  rw [Tb.idx_yes (Tb.nth_mem hi),Tb.nth_lt hi,List.Nodup.idxOf_getElem hok.2.2.2.2.1]
 unfold Tb.lenT
 rw [e,if_neg (by omega)]
 rfl
theorem len_last {t:Tab} (hok:okP t):Tb.lenT t (lastN t.o)=lastN t.l:=by
 have h1:=hok.2.2.1
 have h2:=hok.2.2.2.2.2.2.1
 have:=len_at hok (i:=t.o.length-1) (by omega)
 rw [← h2] at this
 unfold lastN
 rw [← h2]
 exact this
theorem mem_at {l:List Int} {x:Int} (h:x∈l):∃ i,i<l.length∧nth l i=x:=by
 obtain ⟨i,hi,e⟩:=List.getElem_of_mem h
 exact ⟨i,hi,by rw [Tb.nth_lt hi,e]⟩
theorem len_opened {t:Tab} {f y x:Int} (hok:okP t) (hok2:okP (Tb.openedT t f y)) (hx:x∈t.o):Tb.lenT (Tb.openedT t f y) x=Tb.lenT t x:=by
 obtain ⟨i,hi,rfl⟩:=mem_at hx
 have h2:=hok.2.2.2.2.2.2.1
 have e:=len_at hok2 (i:=i) (by show i<(t.o++[f]).length; simp; omega)
 rw [len_at hok hi]
 have e1:nth (Tb.openedT t f y).o i=nth t.o i:=Tb.nth_app hi
 have e2:nth (Tb.openedT t f y).l i=nth t.l i:=Tb.nth_app (by omega)
 rw [e1,e2] at e
 exact e
structure Stands (t:Tab) (s:St) (x:(Int × Int) × Rc.Rec):Prop where
 inn:x.1.1∈t.o
 lo:0≤x.1.2
 hi:x.1.2<Tb.lenT t x.1.1
 cur:s.cur (Tb.sectorT t.st x.1.1 x.1.2)=secB x.2
 fits:Rc.Fits x.2
 ok:Rc.okR x.2=true
theorem len_bd {t:Tab} {x:Int} (hok:okP t) (hx:x∈t.o):0≤Tb.lenT t x∧Tb.lenT t x≤t.st:=by
 obtain ⟨i,hi,rfl⟩:=mem_at hx
 rw [len_at hok hi]
 exact hok.2.2.2.2.2.1 _ (Tb.nth_mem (by have:=hok.2.2.2.2.2.2.1; omega))
theorem Stands.write {t:Tab} {s:St} {x:(Int × Int) × Rc.Rec} (h:Stands t s x) (hok:okP t) (S:ByteArray):Stands t (s.write (Tb.sectorT t.st (lastN t.o) (lastN t.l)) S) x:=by
 refine ⟨h.inn,h.lo,h.hi,?_,h.fits,h.ok⟩
 rw [cur_write,if_neg,h.cur]
 intro e
 have b1:=open_bd hok
 have b2:=hok.2.2.2.1 _ h.inn
 have b3:=len_bd hok h.inn
 have b0:=hok.1
 obtain ⟨e1,e2⟩:=sector_inj hok.2.1 (by omega) (by omega) b1.2 ⟨h.lo,by have:=h.hi; omega⟩ e
 have:=h.hi
 rw [← e1,len_last hok] at this
 omega
theorem Stands.opened {t:Tab} {s:St} {x:(Int × Int) × Rc.Rec} {f y:Int} (h:Stands t s x) (hok:okP t) (hok2:okP (Tb.openedT t f y)):Stands (Tb.openedT t f y) s x :=
 ⟨List.mem_append_left _ h.inn,h.lo,by rw [len_opened hok hok2 h.inn]; exact h.hi,h.cur,h.fits,h.ok⟩
theorem read_stands {t:Tab} {s:St} {x:(Int × Int) × Rc.Rec} (h:Stands t s x):readS t s x.1.1 x.1.2=(#[.int .u64 x.2.l,.int .u32 x.2.e,.int .i64 x.2.k,.int .u64 x.2.v,.int .u64 x.2.d,.string ⟨x.2.i.toArray⟩,.string ⟨x.2.a.toArray⟩],0):=by
 unfold readS
 rw [if_neg (by have:=h.lo; have:=h.hi; omega),h.cur]
 unfold cutC decE
 rw [← secB_eq,if_pos (Rc.isSec_secL h.fits h.ok),if_pos (Rc.isSec_secL h.fits h.ok),Rc.cutR_secL h.fits h.ok]
end Go.Proofs.YtdpmjlbkojhooaaGreat.Lg
