/- A part. -/
import Derived.Test.YtcnohlgigmmefaaGreatPLgB
namespace Go.Proofs.YtcnohlgigmmefaaGreat.Lg
open Go.RowKit Go.Lib
open Tb (Tab TIn Sl okP csT lastN nth Fresh)
open Dk (St Only Grew)
set_option linter.unusedVariables false
theorem secB_size {r:Rc.Rec} (h:Rc.okR r=true):(secB r).size=128:=(size_of (secB_eq r)).trans (Rc.secL_len h)
theorem foot_ok {ls ep f:Int} (hls:1≤ls) (hf:f<16):Rc.okR ⟨ls,ep,3,0,f,[],[]⟩=true:=by
 rw [Rc.okR_iff]
 exact ⟨by simp only; omega,.inr (.inr ⟨rfl,rfl,rfl,rfl,hf⟩)⟩
theorem footB_size {t:Tab} {ls ep f:Int} {l:List Int} (hok:okP t) (hls:1≤ls) (h:Tb.freeT t=f :: l):(footB t ls ep).size=128:=by
 have hi:=Tb.free_in (t:=t) (s:=f) (by rw [h]; exact List.mem_cons_self ..) (by have:=hok.1; omega)
 have:=hok.1
 unfold footB
 rw [h]
 exact secB_size (foot_ok hls (by omega))
structure LogP (c:Nat) (t:Tab) (s:St) (ls gn:Int):Prop where
 ok:okP t
 fit:FitS t s
 good:s.Good
 ls1:1≤ls
 ls2:ls≤1+c
 gn1:0≤gn
 gn2:gn≤1+c
 pend:s.pend.length≤c
section
variable {c c' : Nat} {t:Tab} {s:St} {ls gn ep:Int} {S:ByteArray}
theorem LogP.size2 (h:LogP c t s ls gn):2≤s.size:=by
 have h1:=h.fit
 unfold FitS at h1
 have h2:=h.ok.1
 have h3:=h.ok.2.1
 have:=Int.mul_nonneg (show 0≤t.sg by omega) (show 0≤t.st+1 by omega)
 omega
theorem LogP.le (h:LogP c t s ls gn) (hc:c≤c'):LogP c' t s ls gn :=
 ⟨h.ok,h.fit,h.good,h.ls1,by have:=h.ls2; omega,h.gn1,by have:=h.gn2; omega,Nat.le_trans h.pend hc⟩
theorem chk_p (h:LogP c t s ls gn) (hS:S.size=128):LogP (c+1) t (chkS s gn S).1 ls (chkS s gn S).2.1:=by
 have hz:=h.size2
 have g1:=h.gn1
 have g2:=h.gn2
 unfold chkS
 split
 ·exact h.le (by omega)
 ·rename_i hd
  have hfl:=h.good.flush hd
  split
  ·exact ⟨h.ok,h.fit,hfl,h.ls1,by have:=h.ls2; omega,g1,by simp only; omega,by show ([]:List (Int × ByteArray)).length≤_; simp⟩
  ·rename_i hd1
   have hw:=hfl.write hd1 (i:=(gn+1)%2) (x:=S) ⟨by omega,by show _<s.size; omega⟩ hS
   split
   ·exact ⟨h.ok,h.fit,hw,h.ls1,by have:=h.ls2; omega,g1,by simp only; omega,by show ([]++[_]:List (Int × ByteArray)).length≤_; simp⟩
   ·rename_i hd2
    exact ⟨h.ok,h.fit,hw.flush hd2,h.ls1,by have:=h.ls2; omega,by simp only; omega,by simp only; omega,by show ([]:List (Int × ByteArray)).length≤_; simp⟩
theorem drop_p {x:Int} (h:LogP c t s ls gn) (hS:∀ u,Tb.dropT t x=some u→S.size=128):LogP (c+1) (dropS t x s gn S).2.1 (dropS t x s gn S).1 ls (dropS t x s gn S).2.2.1:=by
 unfold dropS
 split
 ·exact h.le (by omega)
 ·rename_i u hu
  have hk:=chk_p h (hS u hu)
  have hst:u.st=t.st∧u.sg=t.sg:=by
   unfold Tb.dropT at hu
   split at hu
   ·cases hu
   ·injection hu with hu; subst hu; exact ⟨rfl,rfl⟩
  exact ⟨Tb.drop_ok h.ok hu,by have:=hk.fit; unfold FitS at this ⊢; rw [hst.1,hst.2]; exact this,hk.good,hk.ls1,hk.ls2,hk.gn1,hk.gn2,hk.pend⟩
theorem seal_p (h:LogP c t s ls gn) (hS:∀ f l,Tb.freeT t=f :: l→S.size=128):LogP (c+1) (sealS t s ls S).2.1 (sealS t s ls S).1 (sealS t s ls S).2.2.1 gn:=by
 have g1:=h.ls1
 have g2:=h.ls2
 unfold sealS
 split
 ·exact h.le (by omega)
 ·rename_i f l hfr
  split
  ·exact h.le (by omega)
  ·rename_i hd
   exact ⟨Tb.opened_ok h.ok (by rw [hfr]; exact List.mem_cons_self ..),h.fit,h.good.write hd (has_open h.ok h.fit) (hS f l hfr),by simp only; omega,by simp only; omega,h.gn1,by have:=h.gn2; omega,by show (s.pend++[_]).length≤_; have:=h.pend; simp; omega⟩
theorem sealIf_p (h:LogP c t s ls gn):LogP (c+1) (sealIf t s ls ep).2.1 (sealIf t s ls ep).1 (sealIf t s ls ep).2.2.1 gn:=by
 unfold sealIf
 split
 ·exact seal_p h fun f l hf=>footB_size h.ok h.ls1 hf
 ·exact h.le (by omega)
theorem sealIf_room (hok:okP t) (he:(sealIf t s ls ep).2.2.2=0):lastN (sealIf t s ls ep).2.1.l≠(sealIf t s ls ep).2.1.st:=by
 unfold sealIf at he ⊢
 split
 ·rename_i hf
  rw [if_pos hf] at he
  unfold sealS at he ⊢
  split
  ·rename_i hfr
   simp only [hfr] at he
   exact absurd he (by simp)
  ·rename_i f l hfr
   simp only [hfr] at he
   split
   ·rename_i hd
    rw [if_pos hd] at he
    exact absurd he (by simp)
   ·exact opened_count hok
 ·rename_i hf
  exact hf
def chkB (t:Tab) (gn ep ls ver:Int):ByteArray:=⟨(Cp.secL ⟨gn+1,ep,ls,ver,t.o,t.l⟩).toArray⟩
def dropB (t:Tab) (x gn ep ls ver:Int):ByteArray:=match Tb.dropT t x with
 | none=>ByteArray.empty
 | some u=>chkB u gn ep ls ver
variable {K V D:Int} {I X:ByteArray}
theorem put_p (h:LogP c t s ls gn) (hr:lastN t.l≠t.st) (hR:Rc.okR ⟨ls,ep,K,V,D,I.data.toList,X.data.toList⟩=true):LogP (c+1) (appS.putS t s ls ep K V D I X).2.1 (appS.putS t s ls ep K V D I X).1 (appS.putS t s ls ep K V D I X).2.2.1 gn:=by
 have g1:=h.ls1
 have g2:=h.ls2
 unfold appS.putS
 split
 ·exact h.le (by omega)
 ·rename_i hd
  exact ⟨Tb.count_ok h.ok (count_yes hr),h.fit,h.good.write hd (has_open h.ok h.fit) (secB_size hR),by simp only; omega,by simp only; omega,h.gn1,by have:=h.gn2; omega,by show (s.pend++[_]).length≤_; have:=h.pend; simp; omega⟩
theorem okR_stamp {l l' e e' : Int} {i a:List UInt8} (hl:l≠0) (h:Rc.okR ⟨l',e',K,V,D,i,a⟩=true):Rc.okR ⟨l,e,K,V,D,i,a⟩=true:=by
 rw [Rc.okR_iff] at h ⊢
 exact ⟨hl,h.2⟩
theorem app_p (h:LogP c t s ls gn):LogP (c+2) (appS t s ls ep K V D I X).2.1 (appS t s ls ep K V D I X).1 (appS t s ls ep K V D I X).2.2.1 gn:=by
 have hs:=sealIf_p (ep:=ep) h
 unfold appS
 split
 ·exact h.le (by omega)
 ·rename_i hk
  split
  ·exact h.le (by omega)
  ·split
   ·exact hs.le (by omega)
   ·rename_i he
    have he:(sealIf t s ls ep).2.2.2=0:=by omega
    refine put_p hs (sealIf_room h.ok he) (okR_stamp (by have:=hs.ls1; omega) (l':=ls) (e':=ep) ?_)
    cases hb:Rc.okR ⟨ls,ep,K,V,D,I.data.toList,X.data.toList⟩ with
    | true=>rfl
    | false=>exact absurd (.inr hb) hk
end
theorem cur_write (s:St) (i j:Int) (S:ByteArray):(s.write i S).cur j=if i=j then S else s.cur j:=Dk.over_snoc ..
theorem sector_inj {st a b x y:Int} (hs:1≤st∧st≤30) (ha:0≤a∧a≤15) (hb:0≤b∧b≤15) (hx:0≤x∧x≤st) (hy:0≤y∧y≤st) (h:Tb.sectorT st a x=Tb.sectorT st b y):a=b∧x=y:=by
 unfold Tb.sectorT at h
 rw [if_pos ⟨hs.1,hs.2,ha.1,ha.2,hx.1,hx.2⟩,if_pos ⟨hs.1,hs.2,hb.1,hb.2,hy.1,hy.2⟩] at h
 rcases Int.lt_trichotomy a b with h1|h1|h1
 ·have:=Int.mul_le_mul_of_nonneg_right (show a+1≤b by omega) (show 0≤st+1 by omega)
  rw [Int.add_mul,Int.one_mul] at this
  omega
 ·subst h1
  exact ⟨rfl,by omega⟩
 ·have:=Int.mul_le_mul_of_nonneg_right (show b+1≤a by omega) (show 0≤st+1 by omega)
  rw [Int.add_mul,Int.one_mul] at this
  omega
theorem len_at {t:Tab} (hok:okP t) {i:Nat} (hi:i<t.o.length):Tb.lenT t (nth t.o i)=nth t.l i:=by
 have e:Tb.idx t.o (nth t.o i)=i:=by
  rw [Tb.idx_yes (Tb.nth_mem hi),Tb.nth_lt hi,List.Nodup.idxOf_getElem hok.2.2.2.2.1]
 unfold Tb.lenT
 rw [e,if_neg (by omega)]
 rfl
theorem len_last {t:Tab} (hok:okP t):Tb.lenT t (lastN t.o)=lastN t.l:=by
 have h1:=hok.2.2.1
 have h2:=hok.2.2.2.2.2.2.1
 have:=len_at hok (i:=t.o.length-1) (by omega)
 rw [← h2] at this
 unfold lastN
 rw [← h2]
 exact this
theorem mem_at {l:List Int} {x:Int} (h:x∈l):∃ i,i<l.length∧nth l i=x:=by
 obtain ⟨i,hi,e⟩:=List.getElem_of_mem h
 exact ⟨i,hi,by rw [Tb.nth_lt hi,e]⟩
theorem nth_set_ne {l:List Int} {i j:Nat} {x:Int} (h:i≠j):nth (l.set i x) j=nth l j:=by
 unfold nth
 simp [List.getD_eq_getElem?_getD,List.getElem?_set_ne h]
theorem len_opened {t:Tab} {f y x:Int} (hok:okP t) (hok2:okP (Tb.openedT t f y)) (hx:x∈t.o):Tb.lenT (Tb.openedT t f y) x=Tb.lenT t x:=by
 obtain ⟨i,hi,rfl⟩:=mem_at hx
 have h2:=hok.2.2.2.2.2.2.1
 have e:=len_at hok2 (i:=i) (by show i<(t.o++[f]).length; simp; omega)
 rw [len_at hok hi]
 have e1:nth (Tb.openedT t f y).o i=nth t.o i:=Tb.nth_app hi
 have e2:nth (Tb.openedT t f y).l i=nth t.l i:=Tb.nth_app (by omega)
 rw [e1,e2] at e
 exact e
theorem len_counted {t:Tab} {x:Int} (hok:okP t) (hok2:okP (Tb.countedT t)) (hx:x∈t.o):Tb.lenT t x≤Tb.lenT (Tb.countedT t) x:=by
 obtain ⟨i,hi,rfl⟩:=mem_at hx
 have h2:=hok.2.2.2.2.2.2.1
 have e:=len_at hok2 (i:=i) hi
 have e1:nth (Tb.countedT t).o i=nth t.o i:=rfl
 rw [e1] at e
 rw [e,len_at hok hi]
 show nth t.l i≤nth (t.l.set (t.l.length-1) (lastN t.l+1)) i
 by_cases h:t.l.length-1=i
 ·subst h
  rw [Tb.nth_set (by omega)]
  unfold lastN
  omega
 ·rw [nth_set_ne h]
  omega
theorem len_put {t:Tab} (hok:okP t) (hok2:okP (Tb.countedT t)):Tb.lenT (Tb.countedT t) (lastN t.o)=lastN t.l+1:=by
 have:=len_last hok2
 have e:lastN (Tb.countedT t).l=lastN t.l+1:=Tb.last_set _ _ (by have:=hok.2.2.1; have:=hok.2.2.2.2.2.2.1; omega)
 rw [e] at this
 exact this
structure Stands (t:Tab) (s:St) (x:(Int × Int) × Rc.Rec):Prop where
 inn:x.1.1∈t.o
 lo:0≤x.1.2
 hi:x.1.2<Tb.lenT t x.1.1
 cur:s.cur (Tb.sectorT t.st x.1.1 x.1.2)=secB x.2
 fits:Rc.Fits x.2
 ok:Rc.okR x.2=true
theorem len_bd {t:Tab} {x:Int} (hok:okP t) (hx:x∈t.o):0≤Tb.lenT t x∧Tb.lenT t x≤t.st:=by
 obtain ⟨i,hi,rfl⟩:=mem_at hx
 rw [len_at hok hi]
 exact hok.2.2.2.2.2.1 _ (Tb.nth_mem (by have:=hok.2.2.2.2.2.2.1; omega))
theorem Stands.write {t:Tab} {s:St} {x:(Int × Int) × Rc.Rec} (h:Stands t s x) (hok:okP t) (S:ByteArray):Stands t (s.write (Tb.sectorT t.st (lastN t.o) (lastN t.l)) S) x:=by
 refine ⟨h.inn,h.lo,h.hi,?_,h.fits,h.ok⟩
 rw [cur_write,if_neg,h.cur]
 intro e
 have b1:=open_bd hok
 have b2:=hok.2.2.2.1 _ h.inn
 have b3:=len_bd hok h.inn
 have b0:=hok.1
 obtain ⟨e1,e2⟩:=sector_inj hok.2.1 (by omega) (by omega) b1.2 ⟨h.lo,by have:=h.hi; omega⟩ e
 have:=h.hi
 rw [← e1,len_last hok] at this
 omega
theorem Stands.opened {t:Tab} {s:St} {x:(Int × Int) × Rc.Rec} {f y:Int} (h:Stands t s x) (hok:okP t) (hok2:okP (Tb.openedT t f y)):Stands (Tb.openedT t f y) s x :=
 ⟨List.mem_append_left _ h.inn,h.lo,by rw [len_opened hok hok2 h.inn]; exact h.hi,h.cur,h.fits,h.ok⟩
theorem Stands.counted {t:Tab} {s:St} {x:(Int × Int) × Rc.Rec} (h:Stands t s x) (hok:okP t) (hok2:okP (Tb.countedT t)):Stands (Tb.countedT t) s x :=
 ⟨h.inn,h.lo,Int.lt_of_lt_of_le h.hi (len_counted hok hok2 h.inn),h.cur,h.fits,h.ok⟩
theorem seal_stands {t:Tab} {s:St} {ls:Int} {S:ByteArray} {x:(Int × Int) × Rc.Rec} (h:Stands t s x) (hok:okP t):Stands (sealS t s ls S).2.1 (sealS t s ls S).1 x:=by
 unfold sealS
 split
 ·exact h
 ·rename_i f l hfr
  split
  ·exact h
  ·exact (h.write hok S).opened hok (Tb.opened_ok hok (by rw [hfr]; exact List.mem_cons_self ..))
theorem put_stands {t:Tab} {s:St} {ls ep K V D:Int} {I X:ByteArray} {x:(Int × Int) × Rc.Rec} (h:Stands t s x) (hok:okP t) (hr:lastN t.l≠t.st):Stands (appS.putS t s ls ep K V D I X).2.1 (appS.putS t s ls ep K V D I X).1 x:=by
 unfold appS.putS
 split
 ·exact h
 ·exact (h.write hok _).counted hok (Tb.count_ok hok (count_yes hr))
theorem put_new {t:Tab} {s:St} {ls ep K V D:Int} {I X:ByteArray} (hok:okP t) (hr:lastN t.l≠t.st) (hd:¬ s.dead) (hF:Rc.Fits ⟨ls,ep,K,V,D,I.data.toList,X.data.toList⟩) (hR:Rc.okR ⟨ls,ep,K,V,D,I.data.toList,X.data.toList⟩=true) :
 Stands (appS.putS t s ls ep K V D I X).2.1 (appS.putS t s ls ep K V D I X).1 ((lastN t.o,lastN t.l),⟨ls,ep,K,V,D,I.data.toList,X.data.toList⟩):=by
 have hok2:=Tb.count_ok hok (count_yes hr)
 unfold appS.putS
 rw [if_neg hd]
 refine ⟨Tb.last_mem hok.2.2.1,(open_bd hok).2.1,?_,?_,hF,hR⟩
 ·show lastN t.l<_
  rw [len_put hok hok2]
  omega
 ·exact (cur_write ..).trans (if_pos rfl)
end Go.Proofs.YtcnohlgigmmefaaGreat.Lg
namespace Go.Proofs.YtcnohlgigmmefaaGreat.Ro
open Go.RowKit Go.Lib Wd
open Tb (Tab okP lastN nth)
open Dk (St)
set_option linter.unusedVariables false
theorem mix_num {a b:List UInt8} (hl:a.length=b.length) {d:Nat} (hd:d≤256) (h:leN b+d≤leN a) (k:Nat):a.take k++b.drop k=a∨leN (a.take k++b.drop k)+d≤leN a:=by
 by_cases hk:a.length≤k
 ·left
  rw [List.take_of_length_le hk,List.drop_eq_nil_of_le (by omega),List.append_nil]
 have ea:leN a=leN (a.take k)+256 ^ k*leN (a.drop k):=by
  have:=leN_append (a.take k) (a.drop k)
  rwa [List.take_append_drop,List.length_take,Nat.min_eq_left (by omega)] at this
 have eb:leN b=leN (b.take k)+256 ^ k*leN (b.drop k):=by
  have:=leN_append (b.take k) (b.drop k)
  rwa [List.take_append_drop,List.length_take,Nat.min_eq_left (by omega)] at this
 have em:leN (a.take k++b.drop k)=leN (a.take k)+256 ^ k*leN (b.drop k):=by
  rw [leN_append,List.length_take,Nat.min_eq_left (by omega)]
 have la:leN (a.take k)<256 ^ k:=leN_lt_of (by rw [List.length_take]; omega)
 rcases Nat.lt_trichotomy (leN (b.drop k)) (leN (a.drop k)) with h1|h1|h1
 ·right
  rw [em,ea]
  by_cases k0:k=0
  ·subst k0
   simp only [Nat.pow_zero,Nat.one_mul,List.take_zero,List.drop_zero] at *
   have:leN ([]:List UInt8)=0:=rfl
   omega
  ·have hP:256≤256 ^ k:=by
    have:=Nat.pow_le_pow_right (show 0<256 by omega) (show 1≤k by omega)
    simpa using this
   have:=Nat.mul_le_mul_left (256 ^ k) (show leN (b.drop k)+1≤leN (a.drop k) from h1)
   rw [Nat.mul_add,Nat.mul_one] at this
   omega
 ·left
  have e2:b.drop k=a.drop k:=by
   have q1:=putL_leN (b.drop k)
   have q2:=putL_leN (a.drop k)
   rw [← q1,← q2,h1,List.length_drop,List.length_drop,hl]
  rw [e2,List.take_append_drop]
 ·exfalso
  have:=Nat.mul_le_mul_left (256 ^ k) (show leN (a.drop k)+1≤leN (b.drop k) from h1)
  rw [Nat.mul_add,Nat.mul_one] at this
  omega
theorem mix_drop {a b:List UInt8} (ha:a.length=128) (hb:b.length=128) (n p:Nat) (hp:p≤128):(a.take n++b.drop n).drop p=(a.drop p).take (n-p)++(b.drop p).drop (n-p):=by
 by_cases h:n≤p
 ·rw [show n-p=0 by omega,List.take_zero,List.drop_zero,List.nil_append,List.drop_append,List.length_take,List.drop_of_length_le (by rw [List.length_take]; omega),List.nil_append,List.drop_drop]
  congr 1; omega
 ·rw [List.drop_append,List.length_take,List.drop_take,List.drop_drop,List.drop_drop]
  congr 1
  by_cases h2:n≤128
  ·congr 1; omega
  ·rw [List.drop_of_length_le (by omega),List.drop_of_length_le (by omega)]
theorem mix_whole {a b:List UInt8} (ha:a.length=128) (hb:b.length=128) (n p:Nat) (hp:p≤128) (hn:p≤n) (h:(a.take n++b.drop n).drop p=a.drop p):a.take n++b.drop n=a:=by
 rw [← List.take_append_drop p (a.take n++b.drop n),h]
 rw [List.take_append_of_le_length (by rw [List.length_take]; omega),List.take_take,Nat.min_eq_left hn,List.take_append_drop]
def endN (x:List UInt8):Nat:=leN (x.drop 116)
def stN (l e:Int):Nat:=l.toNat+18446744073709551616*e.toNat
theorem stN_lt {l l' e e' : Int} (hl:0≤l∧l<18446744073709551616) (he:0≤e) (hl' : 0≤l') (h:e<e'∨e=e'∧l<l'):stN l e<stN l' e':=by
 unfold stN
 rcases h with h | ⟨rfl,h⟩ <;> omega
theorem stN_le {l l' e e' : Int} (hl:0≤l∧l<18446744073709551616) (he:0≤e) (hl' : 0≤l') (h:e<e'∨e=e'∧l≤l'):stN l e≤stN l' e':=by
 unfold stN
 rcases h with h | ⟨rfl,h⟩ <;> omega
theorem leN_stamp {r:Rc.Rec} (hf:Rc.Fits r):leN (Rc.stampL r)=stN r.l r.e:=by
 obtain ⟨l0,l1,e0,e1,_⟩:=hf
 unfold Rc.stampL stN
 rw [leN_append,leN_putL,leN_putL,putL_length,Nat.mod_eq_of_lt (by omega),Nat.mod_eq_of_lt (by omega)]
theorem end_sec {r:Rc.Rec} (hf:Rc.Fits r) (h:Rc.okR r=true):endN (Rc.secL r)=stN r.l r.e:=by
 unfold endN
 rw [Rc.secL_last h,leN_stamp hf]
theorem end_is {x:List UInt8} (h:Rc.isSec x=true):endN x=stN (Rc.cutR x).l (Rc.cutR x).e:=by
 obtain ⟨h1,h2⟩:=(Rc.isSec_iff x).1 h
 have:=end_sec (Rc.cutR_fits x) h1
 rw [h2] at this
 exact this
theorem end_mix {r:Rc.Rec} {x:List UInt8} (hf:Rc.Fits r) (h:Rc.okR r=true) (hx:x.length=128) (hlt:endN x<stN r.l r.e) (n:Nat):(Rc.secL r).take n++x.drop n=Rc.secL r∨endN ((Rc.secL r).take n++x.drop n)<stN r.l r.e:=by
 have hl:=Rc.secL_len h
 have h2:=mix_drop hl hx n 116 (by omega)
 rcases mix_num (a:=(Rc.secL r).drop 116) (b:=x.drop 116) (d:=1) (by rw [List.length_drop,List.length_drop]; omega) (by omega) (by rw [← end_sec hf h] at hlt; unfold endN at hlt; omega) (n-116) with h3|h3
 ·by_cases hn:116≤n
  ·exact .inl (mix_whole hl hx n 116 (by omega) hn (h2.trans h3))
  ·exfalso
   rw [show n-116=0 by omega,List.take_zero,List.drop_zero,List.nil_append] at h3
   have:=end_sec hf h
   unfold endN at this hlt
   rw [h3] at hlt
   omega
 ·right
  rw [← end_sec hf h]
  unfold endN
  rw [h2]
  omega
def endG (x:List UInt8):Nat:=leN (x.drop 120)
theorem endG_sec {c:Cp.Chk} (hf:Cp.Fits c) (h:Cp.okC c=true):endG (Cp.secL c)=c.g.toNat:=by
 have:=hf.g0
 have:=hf.g1
 unfold endG
 rw [Cp.secL_last h,leN_putL,Nat.mod_eq_of_lt (by omega)]
theorem endG_is {x:List UInt8} (h:Cp.isSec x=true):(endG x:Int)=(Cp.cutC x).g:=by
 obtain ⟨h1,h2⟩:=(Cp.isSec_iff x).1 h
 have hf:=Cp.cutC_fits x
 have:=endG_sec hf h1
 rw [h2] at this
 have:=hf.g0
 omega
theorem endG_mix {c:Cp.Chk} {x:List UInt8} (hf:Cp.Fits c) (h:Cp.okC c=true) (hx:x.length=128) (hlt:(endG x:Int)+2≤c.g) (n:Nat):(Cp.secL c).take n++x.drop n=Cp.secL c∨(endG ((Cp.secL c).take n++x.drop n):Int)+2≤c.g:=by
 have hl:=Cp.secL_len h
 have e0:=endG_sec hf h
 have g0:=hf.g0
 have h2:=mix_drop hl hx n 120 (by omega)
 rcases mix_num (a:=(Cp.secL c).drop 120) (b:=x.drop 120) (d:=2) (by rw [List.length_drop,List.length_drop]; omega) (by omega) (by unfold endG at e0 hlt; omega) (n-120) with h3|h3
 ·by_cases hn:120≤n
  ·exact .inl (mix_whole hl hx n 120 (by omega) hn (h2.trans h3))
  ·exfalso
   rw [show n-120=0 by omega,List.take_zero,List.drop_zero,List.nil_append] at h3
   unfold endG at e0 hlt
   rw [h3] at hlt
   omega
 ·right
  unfold endG at *
  rw [h2]
  omega
theorem best_is {c:Cp.Chk} {x y:List UInt8} (hf:Cp.Fits c) (h:Cp.okC c=true) (hs:(c.g%2=0∧x=Cp.secL c∧(endG y:Int)<c.g)∨(c.g%2=1∧y=Cp.secL c∧(endG x:Int)<c.g)):Cp.bestC x y=c∧Cp.bestE x y=0:=by
 have i1:=Cp.isSec_secL hf h
 have d1:Cp.decC (Cp.secL c)=c:=by rw [(Cp.dec_yes i1).1,Cp.cutC_secL hf h]
 have g0:=hf.g0
 have lt:∀ z,(endG z:Int)<c.g→(Cp.decC z).g<c.g:=fun z hz=>by
  cases hi:Cp.isSec z
  ·rw [(Cp.dec_no hi).1]
   show (0:Int)<c.g
   omega
  ·rw [(Cp.dec_yes hi).1,← endG_is hi]
   exact hz
 rcases hs with ⟨_,rfl,h3⟩ | ⟨_,rfl,h3⟩
 ·have:=lt _ h3
  refine ⟨?_,?_⟩
  ·unfold Cp.bestC
   rw [d1,if_neg (by omega)]
  ·unfold Cp.bestE
   rw [if_neg (by rw [i1]; simp)]
 ·have:=lt _ h3
  refine ⟨?_,?_⟩
  ·unfold Cp.bestC
   rw [d1,if_pos (by omega)]
  ·unfold Cp.bestE
   rw [if_neg (by rw [i1]; simp)]
end Go.Proofs.YtcnohlgigmmefaaGreat.Ro
