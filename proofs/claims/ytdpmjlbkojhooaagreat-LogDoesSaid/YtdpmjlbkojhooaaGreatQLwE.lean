/- A part. -/
import Derived.Test.YtdpmjlbkojhooaaGreatQLwD
import Derived.Test.YtdpmjlbkojhooaaGreatQMem
import Derived.Test.YtdpmjlbkojhooaaGreatQClass
import Derived.Test.YtdpmjlbkojhooaaGreatQFree
import Derived.Test.YtdpmjlbkojhooaaGreatQFreeB
import Derived.Test.YtdpmjlbkojhooaaGreatQFreeC
import Derived.Test.YtdpmjlbkojhooaaGreatQFreeG
namespace Go.Proofs.YtdpmjlbkojhooaaGreat.Dk
open Go.RowKit Go.Lib
set_option linter.unusedVariables false
set_option maxRecDepth 100000
open Go.RowKit Go.MapKept Go.Lib
set_option linter.unusedVariables false
def OwnR (W w:World) (d:Nat) (s:St) (v:Value) (n:Nat) (xs:List Value):Prop :=
 ∃ F,DiskAt w d F s∧(∀ b,F b→W.heap.size≤b)∧Below W.heap.size W w∧w.ownsRow W.heap.size 9 1 v n xs∧∀ g,v.ownBlock=some g→¬ F g
section
variable {W w w' : World} {d n:Nat} {s:St} {v:Value} {xs:List Value}
theorem OwnR.below (h:OwnR W w d s v n xs):Below W.heap.size W w:=let ⟨_,_,_,hb,_⟩:=h; hb
theorem OwnR.good (h:OwnR W w d s v n xs):s.Good:=let ⟨_,hd,_⟩:=h; hd.good
theorem OwnR.row (h:OwnR W w d s v n xs):w.ownsRow W.heap.size 9 1 v n xs:=let ⟨_,_,_,_,hr,_⟩:=h; hr
theorem OwnR.own (h:OwnR W w d s v n xs):Own W w d s:=let ⟨F,hd,hF,hb,_⟩:=h; ⟨F,hd,hF,hb⟩
theorem OwnR.later (h:OwnR W w d s v n xs) (hb:Below w.heap.size w w'):OwnR W w' d s v n xs:=by
 obtain ⟨F,hd,hF,hW,hr,hn⟩:=h
 exact ⟨F,hd.later hb,hF,hW.trans (hb.mono hW.size),own_same hr (fun g hg=>hb.block g (hr.lt g hg).2),hn⟩
theorem OwnR.drew (h:OwnR W w d s v n xs):OwnR W w.drew d s v n xs:=h.later (Below.refl _ _).drew
theorem OwnR.alloc (h:OwnR W w d s v n xs) (o:Obj):OwnR W (w.alloc o) d s v n xs:=h.later ((Below.refl _ _).alloc (Nat.le_refl _) o)
theorem ownR_step {F F' : Nat→Prop} {s' : St} (hF:∀ b,F b→W.heap.size≤b) (hW:Below W.heap.size W w) (hr:w.ownsRow W.heap.size 9 1 v n xs) (hn:∀ g,v.ownBlock=some g→¬ F g)
 (D:DiskAt w' d F' s') (hG:Grew w F F') (hO:Only F w w'):OwnR W w' d s' v n xs:=by
 refine ⟨F',D,fun b hb=>(hG b hb).elim (hF b) (fun e=>Nat.le_trans hW.size e),hW.trans (hO.below hW.size hF),own_same hr (fun g hg=>hO.block g (hr.lt g hg).2 (hn g hg)),fun g hg hf=>?_⟩
 rcases hG g hf with h1|h1
 ·exact hn g hg h1
 ·have:=(hr.lt g hg).2; omega
theorem write_r (h:OwnR W w d s v n xs) (i:Int) (x:ByteArray) (hi:s.has i) (hx:x.size=128) (hd:¬ s.dead) (hpl:s.pend.length<1048576) :
 Calls Tryz.prog 160 #[.pointer (some ⟨d,0,none⟩),.int .i64 i,.string x] w fun e w'=>e=.returned (.int .i64 0)∧OwnR W w' d (s.write i x) v n xs:=by
 obtain ⟨F,D,hF,hW,hr,hn⟩:=h
 exact (write_yes D i x hi hx hd hpl).mono fun e w' ⟨he,⟨F',D',hG⟩,hO⟩=>⟨he,ownR_step hF hW hr hn D' hG hO⟩
theorem flush_r (h:OwnR W w d s v n xs) (hd:¬ s.dead) (hpl:s.pend.length<1048576) :
 Calls Tryz.prog 124 #[.pointer (some ⟨d,0,none⟩)] w fun e w'=>e=.returned (.int .i64 0)∧OwnR W w' d s.flush v n xs:=by
 obtain ⟨F,D,hF,hW,hr,hn⟩:=h
 exact (flush_yes D hd hpl).mono fun e w' ⟨he,⟨F',D',hG⟩,hO⟩=>⟨he,ownR_step hF hW hr hn D' hG hO⟩
theorem read_r (h:OwnR W w d s v n xs) (i:Int) (hi:s.has i) (x:ByteArray) (hx:s.cur i=x) :
 Calls Tryz.prog 36 #[.pointer (some ⟨d,0,none⟩),.int .i64 i] w fun e w'=>e=.returned (.tuple #[.string x,.int .i64 0])∧OwnR W w' d s v n xs:=by
 subst hx
 have ⟨F,D,_⟩:=h
 exact (read_yes D i hi).mono fun e w' ⟨he,hb⟩=>⟨he,h.later hb⟩
theorem pending_r (h:OwnR W w d s v n xs) (m:Int) (hm:(s.pend.length:Int)=m) :
 Calls Tryz.prog 18 #[.pointer (some ⟨d,0,none⟩)] w fun e w'=>e=.returned (.int .i64 m)∧OwnR W w' d s v n xs:=by
 subst hm
 have ⟨F,D,_⟩:=h
 exact (pending_any D).mono fun e w' ⟨he,hw⟩=>⟨he,hw ▸ h⟩
theorem OwnR.set {g cap:Nat} (h:OwnR W w d s (.slice (some ⟨g,0,none⟩) n cap) n xs) (j:Nat) (u:Value):OwnR W (w.setCell ⟨g,j,none⟩ u) d s (.slice (some ⟨g,0,none⟩) n cap) n (xs.set j u):=by
 obtain ⟨F,D,hF,hW,hr,hn⟩:=h
 have hg:=hn g rfl
 refine ⟨F,D.far (G:=fun b=>b=g) ((Only.refl (fun b=>b=g) w).setCell (p:=⟨g,j,none⟩) (.inl rfl) u) (fun i hi e=>hg (by rw [← e]; exact hi)),hF,hW.setCell (hr.lt g rfl).1 _,(hr.stored j u).1,hn⟩
theorem OwnR.cell {g cap:Nat} (h:OwnR W w d s (.slice (some ⟨g,0,none⟩) n cap) n xs) (j:Nat) (u:Value) (hj:xs[j]? = some u):w.cell? ⟨g,j,none⟩=some u:=by
 have:=h.row.cells (g:=g) rfl j u hj
 rw [Addr.add_mid,Nat.zero_add] at this
 exact this
theorem OwnR.free {g cap:Nat} (h:OwnR W w d s (.slice (some ⟨g,0,none⟩) n cap) n xs) (j:Nat):w.frozen? ⟨g,j,none⟩=false:=h.row.frozenAt j
end
theorem crashTo_append {keep:Nat→Bool} {torn:Int} {n:Nat} {h:Int→ByteArray} (l r:List (Int × ByteArray)):∀ k,k≤l.length→crashTo keep torn n (l++r) h k=crashTo keep torn n l h k
 | 0,_=>rfl
 | k+1,hk=>by
   have ih:=crashTo_append (keep:=keep) (torn:=torn) (n:=n) (h:=h) l r k (by omega)
   have e:(l++r)[k]? = l[k]?:=List.getElem?_append_left (by omega)
   simp only [crashTo,e,ih]
theorem over_size {l:List (Int × ByteArray)} (hl:∀ p∈l,p.2.size=128) (i:Int) (x:ByteArray) (hx:x.size=128):(over l i x).size=128:=by
 induction l generalizing x with
 | nil=>exact hx
 | cons p r ih =>
   show (over r i (if p.1=i then p.2 else x)).size=128
   refine ih (fun q hq=>hl q (by simp [hq])) _ ?_
   split
   ·exact hl p (by simp)
   ·exact hx
theorem crashTo_all {keep:Nat→Bool} {torn:Int} {n:Nat} {l:List (Int × ByteArray)} {h:Int→ByteArray} (hk:∀ k,k<l.length→keep k=true) (hl:∀ p∈l,p.2.size=128) (hh:∀ i,(h i).size=128) (i:Int) :
 ∀ k,k≤l.length→crashTo keep torn n l h k i=over (l.take k) i (h i)
 | 0,_=>rfl
 | k+1,hkl=>by
   have ih:=crashTo_all (keep:=keep) (torn:=torn) (n:=n) hk hl hh i k (by omega)
   have hlt:k<l.length:=by omega
   have e:l[k]? = some l[k]:=List.getElem?_eq_getElem hlt
   have hm:l[k]∈l:=List.getElem_mem hlt
   rw [crashTo_step e,hk k hlt,List.take_succ_eq_append_getElem hlt,over_snoc]
   simp only [if_true,do1]
   by_cases ej:i=l[k].1
   ·rw [if_pos ej,if_pos ej.symm,mix_all _ _ (hl _ hm) (crashTo_size hh hl _ _)]
   ·rw [if_neg ej,if_neg (fun h=>ej h.symm),ih]
theorem flush_held {s:St} (hg:s.Good) (i:Int):s.flush.held i=s.cur i:=by
 show crashTo (fun _=>true) 0 0 s.pend s.held s.pend.length i=_
 rw [crashTo_all (fun _ _=>rfl) (fun p hp=>(hg.pend p hp).1) hg.held i _ (Nat.le_refl _),List.take_length]
 rfl
theorem cur_size {s:St} (hg:s.Good) (i:Int):(s.cur i).size=128:=over_size (fun p hp=>(hg.pend p hp).1) i _ (hg.held i)
open Go.RowKit Go.MapKept Go.Lib
set_option linter.unusedVariables false
structure Item where
 holds:World→(Nat→Prop)→Prop
 stable:∀ {w w' : World} {G:Nat→Prop},holds w G→(∀ b,G b→w'.heap[b]? = w.heap[b]?)→w.heap.size≤w'.heap.size→holds w' G
 lt:∀ {w:World} {G:Nat→Prop},holds w G→∀ b,G b→b<w.heap.size
theorem DiskIn.same {w w' : World} {d h l:Nat} {v:Value} {F:Nat→Prop} {s:St} (D:DiskIn w d h l v F s) (hs:∀ i,F i→w'.heap[i]? = w.heap[i]?) (hz:w.heap.size≤w'.heap.size):DiskIn w' d h l v F s :=
 ⟨D.fd,D.fh,D.fl,D.fv,D.hl,(hs d D.fd).trans D.blk,let ⟨f,h1,h2⟩:=D.held; ⟨f,h1.same (hs h D.fh),h2⟩,let ⟨f,h1,h2⟩:=D.last; ⟨f,h1.same (hs l D.fl),h2⟩,
  own_same D.own (fun g hg=>hs g (D.fv g hg)),fun b hb=>Nat.lt_of_lt_of_le (D.lt b hb) hz,D.good⟩
def diskI (d:Nat) (s:St):Item:=⟨fun w G=>DiskAt w d G s,fun ⟨h,l,v,D⟩ hs hz=>⟨h,l,v,D.same hs hz⟩,fun D=>D.lt⟩
def rowI (t:TypeId) (v:Value) (n:Nat) (xs:List Value):Item:=⟨fun w G=>w.ownsRow 0 t 1 v n xs∧∀ b,G b↔v.ownBlock=some b,fun ⟨h,hG⟩ hs hz=>⟨own_same h (fun g hg=>hs g ((hG g).2 hg)),hG⟩,fun ⟨h,hG⟩ b hb=>(h.lt b ((hG b).1 hb)).2⟩
def Sep (W w:World) (items:List Item):Prop :=
 Below W.heap.size W w∧∃ Gs:List (Nat→Prop),Gs.length=items.length∧(∀ (i:Nat) (it:Item) (G:Nat→Prop),items[i]? = some it→Gs[i]? = some G→it.holds w G) ∧
  (∀ (i j:Nat) (G H:Nat→Prop),i≠j→Gs[i]? = some G→Gs[j]? = some H→∀ b,G b→¬ H b)∧∀ (i:Nat) (G:Nat→Prop),Gs[i]? = some G→∀ b,G b→W.heap.size≤b
section
variable {W w w' : World} {items:List Item}
theorem Sep.below (h:Sep W w items):Below W.heap.size W w:=h.1
theorem Sep.later (h:Sep W w items) (hb:Below w.heap.size w w'):Sep W w' items:=by
 obtain ⟨hW,Gs,hl,hh,hd,hN⟩:=h
 refine ⟨hW.trans (hb.mono hW.size),Gs,hl,fun i it G hi hG=>?_,hd,hN⟩
 have:=hh i it G hi hG
 exact it.stable this (fun b hb'=>hb.block b (it.lt this b hb')) hb.size
theorem Sep.drew (h:Sep W w items):Sep W w.drew items:=h.later (Below.refl _ _).drew
theorem Sep.alloc (h:Sep W w items) (o:Obj):Sep W (w.alloc o) items:=h.later ((Below.refl _ _).alloc (Nat.le_refl _) o)
theorem Sep.nil (hW:Below W.heap.size W w):Sep W w []:=⟨hW,[],rfl,fun i it G hi _=>by simp at hi,fun i j G H _ hi _=>by simp at hi,fun i G hi=>by simp at hi⟩
theorem Sep.at_ (h:Sep W w items) (k:Nat) {it:Item} (hk:items[k]? = some it) :
 ∃ G:Nat→Prop,it.holds w G∧(∀ b,G b→W.heap.size≤b)∧(∀ (j:Nat) (it' : Item),items[j]? = some it'→j≠k→∃ H:Nat→Prop,it'.holds w H∧∀ b,H b→¬ G b) ∧
   ∀ (w' : World) (G' : Nat→Prop) (it' : Item),it'.holds w' G'→Grew w G G'→Only G w w'→Sep W w' (items.set k it'):=by
 obtain ⟨hW,Gs,hl,hh,hd,hN⟩:=h
 have hkl:k<Gs.length:=by rw [hl]; exact (List.getElem?_eq_some_iff.1 hk).1
 have hkG:Gs[k]? = some Gs[k]:=List.getElem?_eq_getElem hkl
 generalize Gs[k]=G at hkG
 have hG:=hh k it G hk hkG
 refine ⟨G,hG,hN k G hkG,fun j it' hj hjk=>?_,fun w' G' it' hG' hgr ho=>?_⟩
 ·have hjl:j<Gs.length:=by rw [hl]; exact (List.getElem?_eq_some_iff.1 hj).1
  have hjG:Gs[j]? = some Gs[j]:=List.getElem?_eq_getElem hjl
  exact ⟨Gs[j],hh j it' _ hj hjG,hd j k _ _ hjk hjG hkG⟩
 ·have hset:∀ (i:Nat) (H:Nat→Prop),(Gs.set k G')[i]? = some H→(i=k∧H=G')∨(i≠k∧Gs[i]? = some H):=fun i H hi=>by
   rw [List.getElem?_set] at hi
   by_cases e:k=i
   ·subst e
    rw [if_pos rfl,if_pos hkl] at hi
    injection hi with hi
    exact .inl ⟨rfl,hi.symm⟩
   ·rw [if_neg e] at hi
    exact .inr ⟨fun h=>e h.symm,hi⟩
  have hnew:∀ (i:Nat) (H:Nat→Prop),Gs[i]? = some H→i≠k→∀ b,H b→¬ G' b:=fun i H hi hne b hb hb'=>by
   rcases hgr b hb' with h1|h1
   ·exact hd i k H G hne hi hkG b hb h1
   ·have hil:i<items.length:=by rw [← hl]; exact (List.getElem?_eq_some_iff.1 hi).1
    have:=(items[i]).lt (hh i _ H (List.getElem?_eq_getElem hil) hi) b hb
    omega
  refine ⟨hW.trans (ho.below hW.size (hN k G hkG)),Gs.set k G',by simp [hl],fun i it2 H hi hH=>?_,fun i j H H' hij hi hj b hb hb'=>?_,fun i H hi b hb=>?_⟩
  ·rcases hset i H hH with ⟨rfl,rfl⟩ | ⟨hne,hH'⟩
   ·rw [List.getElem?_set_self (List.getElem?_eq_some_iff.1 hk).1] at hi
    injection hi with hi
    subst hi
    exact hG'
   ·rw [List.getElem?_set_ne (Ne.symm hne)] at hi
    have h2:=hh i it2 H hi hH'
    exact it2.stable h2 (fun b hb=>ho.block b (it2.lt h2 b hb) (hd i k H G hne hH' hkG b hb)) ho.size
  ·rcases hset i H hi with ⟨rfl,rfl⟩ | ⟨hne,hH⟩ <;> rcases hset j H' hj with ⟨rfl,rfl⟩ | ⟨hne',hH'⟩
   ·exact hij rfl
   ·exact hnew j H' hH' hne' b hb' hb
   ·exact hnew i H hH hne b hb hb'
   ·exact hd i j H H' hij hH hH' b hb hb'
  ·rcases hset i H hi with ⟨rfl,rfl⟩ | ⟨hne,hH⟩
   ·rcases hgr b hb with h1|h1
    ·exact hN _ G hkG b h1
    ·exact Nat.le_trans hW.size h1
   ·exact hN i H hH b hb
theorem Sep.new (h:Sep W w items) (it:Item) {G:Nat→Prop} (hG:it.holds w' G) (hn:∀ b,G b→w.heap.size≤b) (hb:Below w.heap.size w w'):Sep W w' (items++[it]):=by
 obtain ⟨hW,Gs,hl,hh,hd,hN⟩:=h
 have hlt:∀ (i:Nat) (H:Nat→Prop),Gs[i]? = some H→∀ b,H b→b<w.heap.size:=fun i H hi b hb=>by
  have hil:i<items.length:=by rw [← hl]; exact (List.getElem?_eq_some_iff.1 hi).1
  exact (items[i]).lt (hh i _ H (List.getElem?_eq_getElem hil) hi) b hb
 have hcase:∀ (i:Nat) (H:Nat→Prop),(Gs++[G])[i]? = some H→(i=Gs.length∧H=G)∨(i<Gs.length∧Gs[i]? = some H):=fun i H hi=>by
  rcases Nat.lt_or_ge i Gs.length with h1|h1
  ·rw [List.getElem?_append_left h1] at hi
   exact .inr ⟨h1,hi⟩
  ·rw [List.getElem?_append_right h1] at hi
   have hi0:i-Gs.length=0:=by
    rcases Nat.eq_zero_or_pos (i-Gs.length) with e|e
    ·exact e
    ·rw [List.getElem?_eq_none (by simp; omega)] at hi; cases hi
   rw [hi0] at hi
   exact .inl ⟨by omega,by simpa using hi.symm⟩
 refine ⟨hW.trans (hb.mono hW.size),Gs++[G],by simp [hl],fun i it2 H hi hH=>?_,fun i j H H' hij hi hj b hbb hb'=>?_,fun i H hi b hbb=>?_⟩
 ·rcases hcase i H hH with ⟨rfl,rfl⟩ | ⟨h1,h2⟩
  ·rw [hl,List.getElem?_append_right (Nat.le_refl _),Nat.sub_self] at hi
   have:it=it2:=by simpa using hi
   subst this
   exact hG
  ·rw [List.getElem?_append_left (by omega)] at hi
   have h3:=hh i it2 H hi h2
   exact it2.stable h3 (fun b hb'=>hb.block b (it2.lt h3 b hb')) hb.size
 ·rcases hcase i H hi with ⟨e1,rfl⟩ | ⟨h1,h2⟩ <;> rcases hcase j H' hj with ⟨e2,rfl⟩ | ⟨h3,h4⟩
  ·omega
  ·have:=hn b hbb; have:=hlt j H' h4 b hb'; omega
  ·have:=hn b hb'; have:=hlt i H h2 b hbb; omega
  ·exact hd i j H H' hij h2 h4 b hbb hb'
 ·rcases hcase i H hi with ⟨_,rfl⟩ | ⟨_,h2⟩
  ·exact Nat.le_trans hW.size (hn b hbb)
  ·exact hN i H h2 b hbb
variable {d:Nat} {s:St}
theorem good_s (h:Sep W w items) (k:Nat) (hk:items[k]? = some (diskI d s)):s.Good:=by
 obtain ⟨G,D,_⟩:=h.at_ k hk
 exact DiskAt.good D
theorem write_s (h:Sep W w items) (k:Nat) (hk:items[k]? = some (diskI d s)) (i:Int) (x:ByteArray) (hi:s.has i) (hx:x.size=128) (hd:¬ s.dead) (hpl:s.pend.length<1048576) :
 Calls Tryz.prog 160 #[.pointer (some ⟨d,0,none⟩),.int .i64 i,.string x] w fun e w'=>e=.returned (.int .i64 0)∧Sep W w' (items.set k (diskI d (s.write i x))):=by
 obtain ⟨G,D,_,_,hstep⟩:=h.at_ k hk
 exact (write_yes D i x hi hx hd hpl).mono fun e w' ⟨he,⟨F',D',hG⟩,hO⟩=>⟨he,hstep w' F' (diskI d (s.write i x)) D' hG hO⟩
theorem flush_s (h:Sep W w items) (k:Nat) (hk:items[k]? = some (diskI d s)) (hd:¬ s.dead) (hpl:s.pend.length<1048576) :
 Calls Tryz.prog 124 #[.pointer (some ⟨d,0,none⟩)] w fun e w'=>e=.returned (.int .i64 0)∧Sep W w' (items.set k (diskI d s.flush)):=by
 obtain ⟨G,D,_,_,hstep⟩:=h.at_ k hk
 exact (flush_yes D hd hpl).mono fun e w' ⟨he,⟨F',D',hG⟩,hO⟩=>⟨he,hstep w' F' (diskI d s.flush) D' hG hO⟩
theorem read_s (h:Sep W w items) (k:Nat) (hk:items[k]? = some (diskI d s)) (i:Int) (hi:s.has i) (x:ByteArray) (hx:s.cur i=x) :
 Calls Tryz.prog 36 #[.pointer (some ⟨d,0,none⟩),.int .i64 i] w fun e w'=>e=.returned (.tuple #[.string x,.int .i64 0])∧Sep W w' items:=by
 subst hx
 obtain ⟨G,D,_⟩:=h.at_ k hk
 exact (read_yes D i hi).mono fun e w' ⟨he,hb⟩=>⟨he,h.later hb⟩
theorem pending_s (h:Sep W w items) (k:Nat) (hk:items[k]? = some (diskI d s)) (m:Int) (hm:(s.pend.length:Int)=m) :
 Calls Tryz.prog 18 #[.pointer (some ⟨d,0,none⟩)] w fun e w'=>e=.returned (.int .i64 m)∧Sep W w' items:=by
 subst hm
 obtain ⟨G,D,_⟩:=h.at_ k hk
 exact (pending_any D).mono fun e w' ⟨he,hw⟩=>⟨he,hw ▸ h⟩
theorem Sep.lit (h:Sep W w items) (t:TypeId) (cs:Array Value) (n:Nat) (hs:cs.size=n) (hn:n≤maxLen):Sep W (w.alloc (.cells cs t)) (items++[rowI t (.slice (some ⟨w.heap.size,0,none⟩) n n) n cs.toList]):=by
 refine h.new _ (G:=fun b=>b=w.heap.size) ⟨World.ownsRow_lit w cs n (Nat.zero_le _) hn (by rw [Nat.mul_one]; exact hs),fun b=>?_⟩ (fun b hb=>by omega) ((Below.refl _ _).alloc (Nat.le_refl _) _)
 simp [Value.ownBlock,eq_comm]
end
open Go.RowKit Go.MapKept Go.Lib
set_option linter.unusedVariables false
def leftR (s:St):Int:=if s.set then (if s.left<1 then 0 else s.left) else -1
def rL (s:St):List Value:=(List.range s.size.toNat).map fun (i:Nat)=>Value.string (s.held (i:Int))
def rW (l:List (Int × ByteArray)):List Value:=l.map fun p=>Value.int .i64 p.1
def rT (l:List (Int × ByteArray)):List Value:=l.map fun p=>Value.string p.2
structure RefIn (w:World) (r:Nat) (vL vW vT:Value) (F:Nat→Prop) (s:St):Prop where
 fr:F r
 fL:∀ g,vL.ownBlock=some g→F g
 fW:∀ g,vW.ownBlock=some g→F g
 fT:∀ g,vT.ownBlock=some g→F g
 LT:∀ g,vL.ownBlock=some g→vT.ownBlock≠some g
 blk:Blk w r 53 #[vL,vW,vT,.int .i64 (leftR s)]
 rowL:w.ownsRow 0 9 1 vL s.size.toNat (rL s)
 rowW:w.ownsRow 0 3 1 vW s.pend.length (rW s.pend)
 rowT:w.ownsRow 0 9 1 vT s.pend.length (rT s.pend)
 lt:∀ b,F b→b<w.heap.size
 good:s.Good
def RefAt (w:World) (r:Nat) (F:Nat→Prop) (s:St):Prop:=∃ vL vW vT,RefIn w r vL vW vT F s
section
variable {w w' : World} {r:Nat} {vL vW vT:Value} {F:Nat→Prop} {s:St}
theorem RefIn.same (D:RefIn w r vL vW vT F s) (hs:∀ i,F i→w'.heap[i]? = w.heap[i]?) (hz:w.heap.size≤w'.heap.size):RefIn w' r vL vW vT F s :=
 ⟨D.fr,D.fL,D.fW,D.fT,D.LT,(hs r D.fr).trans D.blk,own_same D.rowL (fun g hg=>hs g (D.fL g hg)),own_same D.rowW (fun g hg=>hs g (D.fW g hg)),own_same D.rowT (fun g hg=>hs g (D.fT g hg)),
  fun b hb=>Nat.lt_of_lt_of_le (D.lt b hb) hz,D.good⟩
theorem RefIn.later (D:RefIn w r vL vW vT F s) (hb:Below w.heap.size w w'):RefIn w' r vL vW vT F s:=D.same (fun i hi=>hb.block i (D.lt i hi)) hb.size
theorem RefAt.later (D:RefAt w r F s) (hb:Below w.heap.size w w'):RefAt w' r F s:=let ⟨a,b,c,D⟩:=D; ⟨a,b,c,D.later hb⟩
theorem RefAt.good (D:RefAt w r F s):s.Good:=let ⟨_,_,_,D⟩:=D; D.good
theorem RefAt.lt (D:RefAt w r F s):∀ b,F b→b<w.heap.size:=let ⟨_,_,_,D⟩:=D; D.lt
theorem RefIn.x0 (D:RefIn w r vL vW vT F s):w.cell? ⟨r,0,none⟩=some vL:=D.blk.cell 0
theorem RefIn.x1 (D:RefIn w r vL vW vT F s):w.cell? ⟨r,1,none⟩=some vW:=D.blk.cell 1
theorem RefIn.x2 (D:RefIn w r vL vW vT F s):w.cell? ⟨r,2,none⟩=some vT:=D.blk.cell 2
theorem RefIn.x3 (D:RefIn w r vL vW vT F s):w.cell? ⟨r,3,none⟩=some (.int .i64 (leftR s)):=D.blk.cell 3
theorem RefIn.rl (D:RefIn w r vL vW vT F s):vL.ownBlock≠some r:=own_ne D.rowL D.blk (by decide)
theorem RefIn.rw (D:RefIn w r vL vW vT F s):vW.ownBlock≠some r:=own_ne D.rowW D.blk (by decide)
theorem RefIn.rt (D:RefIn w r vL vW vT F s):vT.ownBlock≠some r:=own_ne D.rowT D.blk (by decide)
theorem RefIn.turn {s' : St} (D:RefIn w r vL vW vT F s) (ho:Only (fun i=>i=r) w w') (hb:Blk w' r 53 #[vL,vW,vT,.int .i64 (leftR s')]) (h1:s'.held=s.held) (h2:s'.pend=s.pend) (h3:s'.size=s.size) (hg:s'.Good):RefIn w' r vL vW vT F s':=by
 have hs:∀ i,i<w.heap.size→i≠r→w'.heap[i]? = w.heap[i]?:=fun i hi hne=>ho.block i hi hne
 have eL:rL s' = rL s:=by unfold rL; rw [h1,h3]
 refine ⟨D.fr,D.fL,D.fW,D.fT,D.LT,hb,?_,?_,?_,fun b hb=>Nat.lt_of_lt_of_le (D.lt b hb) ho.size,hg⟩
 ·rw [eL,h3]; exact own_same D.rowL (fun g hg=>hs g (D.rowL.lt g hg).2 (fun e=>D.rl (by rw [hg,e])))
 ·rw [h2]; exact own_same D.rowW (fun g hg=>hs g (D.rowW.lt g hg).2 (fun e=>D.rw (by rw [hg,e])))
 ·rw [h2]; exact own_same D.rowT (fun g hg=>hs g (D.rowT.lt g hg).2 (fun e=>D.rt (by rw [hg,e])))
end
theorem ruse_no {w:World} {r:Nat} {F:Nat→Prop} {s:St} (D:RefAt w r F s) (hd:s.dead) :
 Calls Tryz.prog 144 #[.pointer (some ⟨r,0,none⟩)] w fun e w'=>e=.returned (.bool false)∧w=w':=by
 obtain ⟨vL,vW,vT,D⟩:=D
 have x3:=D.x3
 have e:leftR s=0:=by unfold leftR; rw [hd.1,if_pos rfl,if_pos hd.2]
 rw [e] at x3
 clear D e
 go_enter Tryz.func144,Tryz.ntmps144
 go_wp2
 go_ret
 exact ⟨rfl,rfl⟩
theorem ruse_yes {w:World} {r:Nat} {F:Nat→Prop} {s:St} (D:RefAt w r F s) (hd:¬ s.dead) :
 Calls Tryz.prog 144 #[.pointer (some ⟨r,0,none⟩)] w fun e w'=>e=.returned (.bool true)∧RefAt w' r F s.use∧Only F w w':=by
 obtain ⟨vL,vW,vT,D⟩:=D
 have x3:=D.x3
 have f3:=D.blk.frozen 3
 have hg:=D.good.use hd
 cases hs:s.set
 ·have e:leftR s = -1:=by unfold leftR; rw [hs]; rfl
  have e1:s.use=s:=by cases s; simp only at hs; subst hs; rfl
  rw [e] at x3
  have HD:=Lib.hid (⟨_,_,_,D⟩:RefAt w r F s)
  have H1:=Lib.hid e1
  clear D e e1 hs hg
  go_enter Tryz.func144,Tryz.ntmps144
  go_wp2
  go_ret
  exact ⟨rfl,by rw [H1.out]; exact HD.out,Only.refl _ _⟩
 ·have hl:1≤s.left:=by
   by_cases e:s.left<1
   ·exact absurd ⟨hs,e⟩ hd
   ·omega
  have e:leftR s=s.left:=by unfold leftR; rw [hs,if_pos rfl,if_neg (by omega)]
  have hm:=D.good.left2
  have e1:leftR s.use=s.left-1:=by
   unfold leftR St.use
   simp only [hs,if_true]
   split <;> omega
  rw [e] at x3
  have b1:=D.blk.set_ 3 (.int .i64 (s.left-1))
  have D1:RefIn (w.setCell ⟨r,3,none⟩ (.int .i64 (s.left-1))) r vL vW vT F s.use:=by
   refine D.turn ((Only.refl (fun i=>i=r) w).setCell (p:=⟨r,3,none⟩) (.inl rfl) _) ?_ rfl rfl rfl hg
   rw [e1]; exact b1
  have HD:=Lib.hid (⟨_,_,_,D1⟩:RefAt _ r F s.use)
  have fr:=D.fr
  have hne:(s.left == 0)=false:=by rw [beq_eq_false_iff_ne]; omega
  clear D D1 b1 e e1 hs hg hd
  go_enter Tryz.func144,Tryz.ntmps144
  go_wp2
  go_ret
  exact ⟨rfl,HD.out,(Only.refl _ _).setCell (.inl fr) _⟩
theorem rlimit_any {w:World} {r:Nat} {F:Nat→Prop} {s:St} (D:RefAt w r F s) (n:Int) (h1:-9223372036854775808≤n) (h2:n≤9223372036854775807) :
 Calls Tryz.prog 16 #[.pointer (some ⟨r,0,none⟩),.int .i64 n] w fun e w'=>e=.returned (.tuple #[])∧RefAt w' r F (s.limit n)∧Only F w w':=by
 obtain ⟨vL,vW,vT,D⟩:=D
 have x3:=D.x3
 have f3:=D.blk.frozen 3
 have hg:=D.good.limit h1 h2
 have fr:=D.fr
 have key:∀ q:Int,leftR (s.limit n)=q→RefIn (w.setCell ⟨r,3,none⟩ (.int .i64 q)) r vL vW vT F (s.limit n):=fun q hq=>by
  refine D.turn ((Only.refl (fun i=>i=r) w).setCell (p:=⟨r,3,none⟩) (.inl rfl) _) ?_ rfl rfl rfl hg
  rw [hq]; exact D.blk.set_ 3 (.int .i64 q)
 by_cases hn:0<n
 ·have HD:=Lib.hid (⟨_,_,_,key n (by unfold leftR St.limit; simp only [if_true]; rw [if_neg (by omega)])⟩:RefAt _ r F (s.limit n))
  clear D key hg
  go_enter Tryz.func16,Tryz.ntmps16
  go_wp2
  go_end0
  exact ⟨rfl,HD.out,(Only.refl _ _).setCell (.inl fr) _⟩
 ·by_cases hn0:n=0
  ·subst hn0
   have HD:=Lib.hid (⟨_,_,_,key 0 (by unfold leftR St.limit; simp)⟩:RefAt _ r F (s.limit 0))
   clear D key hg hn
   go_enter Tryz.func16,Tryz.ntmps16
   go_wp2
   go_end0
   exact ⟨rfl,HD.out,(Only.refl _ _).setCell (.inl fr) _⟩
  ·have HD:=Lib.hid (⟨_,_,_,key 0 (by unfold leftR St.limit; simp only [if_true]; rw [if_pos (by omega)])⟩:RefAt _ r F (s.limit n))
   have hlt:n<0:=by omega
   clear D key hg hn hn0
   go_enter Tryz.func16,Tryz.ntmps16
   go_wp2
   go_end0
   exact ⟨rfl,HD.out,(Only.refl _ _).setCell (.inl fr) _⟩
theorem own_ne2 {w:World} {v u:Value} {e t:TypeId} {b1 b2 s1 s2 n m:Nat} {xs ys:List Value} (ho:w.ownsRow b1 e s1 v n xs) (hu:w.ownsRow b2 t s2 u m ys) (hne:e≠t):∀ g,v.ownBlock=some g→u.ownBlock≠some g:=by
 intro g hg
 rcases hu.2 with ⟨rfl,_⟩ | ⟨g',cap,cur,rfl,_,hh,_⟩
 ·simp [Value.ownBlock]
 ·intro he
  have:g' = g:=by simpa [Value.ownBlock] using he
  subst this
  exact own_ne ho (t:=t) hh hne hg
theorem push_row {w W:World} {r:Nat} {t e:TypeId} {cs:Array Value} {v v' : Value} {n k:Nat} {xs news:List Value} {o:Obj}
 (B:Blk w r t cs) (ho:w.ownsRow 0 e 1 v n xs) (hne:e≠t) (g:(w.alloc o).grownBy W v.ownBlock) (ho' : W.ownsRow 0 e 1 v' (n+1) (xs++news))
 (hat:v'.ownBlock=v.ownBlock∨v'.ownBlock=some (w.heap.size+1)) :
 Blk (W.setCell ⟨r,k,none⟩ v') r t (cs.setIfInBounds k v')∧(W.setCell ⟨r,k,none⟩ v').ownsRow 0 e 1 v' (n+1) (xs++news)
  ∧ Only (fun i=>i=r∨v.ownBlock=some i) w (W.setCell ⟨r,k,none⟩ v')∧(∀ g,v'.ownBlock=some g→v.ownBlock=some g∨w.heap.size≤g):=by
 have B' : Blk W r t cs:=Blk.grown (B.alloc o) g (fun e=>own_ne ho B hne e.symm)
 have hne':=own_ne ho' B' hne
 refine ⟨B'.set_ k v',own_same ho' (fun g hg=>Below.heap_setCell _ _ _ _ (fun e=>hne' (by rw [hg,e]))),?_,?_⟩
 ·exact (((Only.refl _ w).alloc o).grown g (fun k hk=>.inl (.inr hk))).setCell (p:=⟨r,k,none⟩) (.inl (.inl rfl)) v'
 ·intro g hg
  rcases hat with e|e
  ·rw [e] at hg; exact .inl hg
  ·rw [e] at hg; injection hg with hg; right; rw [← hg]; simp
theorem rW_snoc (l:List (Int × ByteArray)) (i:Int) (x:ByteArray):rW (l++[(i,x)])=rW l++[Value.int .i64 i]:=by simp [rW]
theorem rT_snoc (l:List (Int × ByteArray)) (i:Int) (x:ByteArray):rT (l++[(i,x)])=rT l++[Value.string x]:=by simp [rT]
set_option maxHeartbeats 1000000 in
theorem rwrite_yes {w:World} {r:Nat} {F:Nat→Prop} {s:St} (D:RefAt w r F s) (i:Int) (x:ByteArray) (hi:s.has i) (hx:x.size=128) (hd:¬ s.dead) (hpl:s.pend.length<1048576) :
 Calls Tryz.prog 97 #[.pointer (some ⟨r,0,none⟩),.int .i64 i,.string x] w fun e w'=>e=.returned (.int .i64 0)∧(∃ F',RefAt w' r F' (s.write i x)∧Grew w F F')∧Only F w w':=by
 have hb:((x.size:Int) != 128)=false:=by rw [hx]; rfl
 have HX:=Lib.hid hx
 have hw:=(D.good).write hd hi hx
 have HD:=Lib.hid D
 obtain ⟨vL,vW,vT,D⟩:=D
 obtain ⟨aL,cL,rfl⟩:=own_slice D.rowL
 have x0:=D.x0
 have i1:(decide (i<0))=false:=by have:=hi.1; simp; omega
 have i2:(decide (max s.size 0≤i))=false:=by have:=hi.1; have:=hi.2; rw [decide_eq_false_iff_not]; omega
 clear hx D
 go_enter Tryz.func97,Tryz.ntmps97
 go_wp2_with fail
 refine (ruse_yes HD.out hd).mono ?_
 rintro e w1 ⟨rfl,D1,O1⟩
 obtain ⟨vL,vW,vT,D1⟩:=D1
 obtain ⟨aW,cW,rfl⟩:=own_slice D1.rowW
 obtain ⟨aT,cT,rfl⟩:=own_slice D1.rowT
 have hpl' : s.use.pend.length<1048576:=hpl
 have hw1:(Tryz.prog.info? 3).map (fun i=>(i.zero,i.size,i.bytes))=some (some (.int .i64 0),1,8):=by kernel_rfl
 obtain ⟨i0,hi0,hz0,hz1,hz2⟩:=info_parts hw1
 have hw2:(Tryz.prog.info? 9).map (fun i=>(i.zero,i.size,i.bytes))=some (some (.string ByteArray.empty),1,16):=by kernel_rfl
 obtain ⟨j0,hj0,hy0,hy1,hy2⟩:=info_parts hw2
 have B1:=D1.blk
 have rL1:=D1.rowL
 have rW1:=D1.rowW
 have rT1:=D1.rowT
 have x1:=D1.x1
 have HD1:=Lib.hid D1
 clear D1
 go_wp2_with (at_builtin; refine wpList_append_own_at _ rfl _ _ _ rfl 0 3 i0 _ 1 8 Tryz.underlying51 hi0 hz0 hz1 hz2 rfl (by omega) (.slice aW s.use.pend.length cW) s.use.pend.length _ rfl (rW1.alloc _) ⟨w1.heap.size,0,none⟩ 1 1 [.int .i64 i] rfl rfl (fun j u hu=>by
  rw [Addr.add_mid,Nat.zero_add]
  have:=(Blk.new w1 3 #[.int .i64 i]).cell j
  exact this.trans (by simpa using hu)) (by simp [Value.oneCell']) (by simp only [maxLen]; omega) (by omega) (Nat.zero_le _) ?_)
 intro v5 W5 own5 g5 _ hat5
 obtain ⟨A5,n5,rfl⟩:=own_slice own5
 obtain ⟨B5,R5,o5,h5⟩:=push_row (k:=1) B1 rW1 (by decide) g5 own5 hat5
 have p5:Blk W5 r 53 _:=Blk.grown (B1.alloc _) g5 (fun e=>own_ne rW1 B1 (by decide) e.symm)
 have D1:=HD1.out
 have L5:(W5.setCell ⟨r,1,none⟩ (.slice A5 (s.use.pend.length+1) n5)).ownsRow 0 9 1 vL s.use.size.toNat (rL s.use) :=
  own_same rL1 (fun g hg=>o5.block g (rL1.lt g hg).2 (fun hh=>hh.elim (fun e=>D1.rl (by rw [hg,e])) (own_ne2 rL1 rW1 (by decide) g hg)))
 have T5:(W5.setCell ⟨r,1,none⟩ (.slice A5 (s.use.pend.length+1) n5)).ownsRow 0 9 1 (.slice aT s.use.pend.length cT) s.use.pend.length (rT s.use.pend) :=
  own_same rT1 (fun g hg=>o5.block g (rT1.lt g hg).2 (fun hh=>hh.elim (fun e=>D1.rt (by rw [hg,e])) (own_ne2 rT1 rW1 (by decide) g hg)))
 have q51:=p5.cell 1
 have q52:=p5.cell 2
 have f51:=p5.frozen 1
 simp only [List.getElem?_toArray,List.getElem?_cons_succ,List.getElem?_cons_zero] at q51 q52
 simp only [List.setIfInBounds_toArray,List.set_cons_succ,List.set_cons_zero] at B5
 have NB0:Blk ((W5.setCell ⟨r,1,none⟩ (.slice A5 (s.use.pend.length+1) n5)).alloc (.cells #[.string x] 9)) W5.heap.size 9 #[.string x]:=by
  have:=Blk.new (W5.setCell ⟨r,1,none⟩ (.slice A5 (s.use.pend.length+1) n5)) 9 #[.string x]
  rwa [show (W5.setCell ⟨r,1,none⟩ (.slice A5 (s.use.pend.length+1) n5)).heap.size=W5.heap.size by simp [World.setCell]] at this
 have NB:=Lib.hid NB0
 clear NB0
 clear own5 g5 hat5 hw1 hi0 hz0 hz1 hz2 p5 B1 rL1 rW1 rT1 D1
 go_wp2_with (at_builtin; refine wpList_append_own_at _ rfl _ _ _ rfl 0 9 j0 _ 1 16 Tryz.underlying50 hj0 hy0 hy1 hy2 rfl (by omega) (.slice aT s.use.pend.length cT) s.use.pend.length _ rfl (T5.alloc _) ⟨W5.heap.size,0,none⟩ 1 1 [.string x] rfl rfl (fun j u hu=>by
  rw [Addr.add_mid,Nat.zero_add]
  have:=(NB.out).cell j
  exact this.trans (by simpa using hu)) (by simp [Value.oneCell']) (by simp only [maxLen]; omega) (by omega) (Nat.zero_le _) ?_)
 intro v7 W7 own7 g7 _ hat7
 have D1:=HD1.out
 have O5:Only F w (W5.setCell ⟨r,1,none⟩ (.slice A5 (s.use.pend.length+1) n5)):=O1.trans o5 (fun j hj=>.inl (hj.elim (fun e=>e ▸ D1.fr) (fun e=>D1.fW j e)))
 have z1:=O1.size
 have z5:=o5.size
 have TL:∀ g,vL.ownBlock=some g→g≠r∧(Value.slice aT s.use.pend.length cT).ownBlock≠some g:=fun g hg=>⟨fun e=>D1.rl (by rw [hg,e]),D1.LT g hg⟩
 have lt5:=R5.lt
 have ltL:=D1.rowL.lt
 clear hb i1 i2 x0 hd hi hpl
 have hz6:(W5.setCell ⟨r,1,none⟩ (.slice A5 (s.use.pend.length+1) n5)).heap.size=W5.heap.size:=by simp [World.setCell]
 rw [← hz6] at hat7
 generalize hW6:W5.setCell ⟨r,1,none⟩ (.slice A5 (s.use.pend.length+1) n5)=W6 at *
 obtain ⟨B7,R7,o7,h7⟩:=push_row (k:=2) B5 T5 (by decide) g7 own7 hat7
 obtain ⟨A7,n7,rfl⟩:=own_slice own7
 have p7:Blk W7 r 53 _:=Blk.grown (B5.alloc _) g7 (fun e=>own_ne T5 B5 (by decide) e.symm)
 have q72:=p7.cell 2
 have f72:=p7.frozen 2
 simp only [List.getElem?_toArray,List.getElem?_cons_succ,List.getElem?_cons_zero] at q72
 simp only [List.setIfInBounds_toArray,List.set_cons_succ,List.set_cons_zero] at B7
 have FIN:(∃ F',RefAt (W7.setCell ⟨r,2,none⟩ (.slice A7 (s.use.pend.length+1) n7)) r F' (s.write i x)∧Grew w F F')∧Only F w (W7.setCell ⟨r,2,none⟩ (.slice A7 (s.use.pend.length+1) n7)):=by
  have O7:Only F w (W7.setCell ⟨r,2,none⟩ (.slice A7 (s.use.pend.length+1) n7)):=O5.trans o7 (fun j hj=>.inl (hj.elim (fun e=>e ▸ D1.fr) (fun e=>D1.fT j e)))
  have z7:=o7.size
  have L7:=own_same (w':=W7.setCell ⟨r,2,none⟩ (.slice A7 (s.use.pend.length+1) n7)) L5 (fun g hg=>o7.block g (L5.lt g hg).2 (fun hh=>hh.elim (TL g hg).1 (TL g hg).2))
  have W7':=own_same (w':=W7.setCell ⟨r,2,none⟩ (.slice A7 (s.use.pend.length+1) n7)) R5 (fun g hg=>o7.block g (R5.lt g hg).2 (fun hh=>hh.elim (fun e=>own_ne R5 B5 (by decide) (by rw [hg,e])) (own_ne2 R5 T5 (by decide) g hg)))
  refine ⟨⟨fun b=>F b∨(w.heap.size≤b∧b<(W7.setCell ⟨r,2,none⟩ (.slice A7 (s.use.pend.length+1) n7)).heap.size),⟨vL,.slice A5 (s.use.pend.length+1) n5,.slice A7 (s.use.pend.length+1) n7,?_⟩,fun b hb=>hb.imp id (fun e=>e.1)⟩,O7⟩
  have ew:(s.write i x).pend=s.use.pend++[(i,x)]:=rfl
  have el:(s.write i x).pend.length=s.use.pend.length+1:=by rw [ew]; simp
  refine ⟨.inl D1.fr,fun g hg=>.inl (D1.fL g hg),fun g hg=>?_,fun g hg=>?_,fun g hg hh=>?_,B7,L7,?_,?_,?_,hw⟩
  ·rcases h5 g hg with e|e
   ·exact .inl (D1.fW g e)
   ·exact .inr ⟨by omega,(W7'.lt g hg).2⟩
  ·rcases h7 g hg with e|e
   ·exact .inl (D1.fT g e)
   ·exact .inr ⟨by omega,(R7.lt g hg).2⟩
  ·rcases h7 g hh with e|e
   ·exact (TL g hg).2 e
   ·have:=(ltL g hg).2; omega
  ·rw [el,ew,rW_snoc]; exact W7'
  ·rw [el,ew,rT_snoc]; exact R7
  ·intro b hb
   rcases hb with hb|hb
   ·exact Nat.lt_of_lt_of_le (D1.lt b hb) (by omega)
   ·exact hb.2
 have HF:=Lib.hid FIN
 clear FIN D1 own7 g7 hat7 hw2 hj0 hy0 hy1 hy2 p7 B7 R7 o7 h7 B5 R5 o5 h5 T5 L5 O5 O1 TL lt5 ltL hw
 go_wp2
 go_ret
 exact ⟨rfl,HF.out⟩
open Go.RowKit Go.MapKept Go.Lib
set_option linter.unusedVariables false
theorem rwrite_dead {w:World} {r:Nat} {F:Nat→Prop} {s:St} (D:RefAt w r F s) (i:Int) (x:ByteArray) (hi:s.has i) (hx:x.size=128) (hd:s.dead) :
 Calls Tryz.prog 97 #[.pointer (some ⟨r,0,none⟩),.int .i64 i,.string x] w fun e w'=>e=.returned (.int .i64 9)∧w=w':=by
 have hb:((x.size:Int) != 128)=false:=by rw [hx]; rfl
 have HD:=Lib.hid D
 obtain ⟨vL,vW,vT,D⟩:=D
 obtain ⟨aL,cL,rfl⟩:=own_slice D.rowL
 have x0:=D.x0
 have i1:(decide (i<0))=false:=by have:=hi.1; simp; omega
 have i2:(decide (max s.size 0≤i))=false:=by have:=hi.1; have:=hi.2; rw [decide_eq_false_iff_not]; omega
 clear D hx
 go_enter Tryz.func97,Tryz.ntmps97
 go_wp2_with fail
 refine (ruse_no HD.out hd).mono ?_
 rintro e w1 ⟨rfl,rfl⟩
 go_wp2
 go_ret
 exact ⟨rfl,rfl⟩
theorem own_at {w:World} {v:Value} {base:Nat} {e:TypeId} {n k:Nat} {xs:List Value} {u:Value} (ho:w.ownsRow base e 1 v n xs) (hu:xs[k]? = some u) :
 ∃ g c,v=.slice (some ⟨g,0,none⟩) n c∧w.cell? ⟨g,k,none⟩=some u∧w.frozen? ⟨g,k,none⟩=false:=by
 have hk:k<xs.length:=(List.getElem?_eq_some_iff.1 hu).1
 have hn:=ho.1
 rcases ho.2 with ⟨rfl,h0⟩ | ⟨g,cap,cur,rfl,_,hh,h1,h2,h3,h4⟩
 ·omega
 ·refine ⟨g,cap,rfl,?_,?_⟩
  ·rw [cell_of_row w g k cur e (0,0) hh]
   rw [← h4,List.getElem?_take] at hu
   split at hu
   ·simpa using hu
   ·exact absurd hu (by simp)
  ·simp [World.frozen?,hh]
theorem rL_at {s:St} {i:Int} (hi:s.has i):(rL s)[i.toNat]? = some (.string (s.held i)):=by
 have h1:=hi.1
 have h2:=hi.2
 have:((i.toNat:Nat):Int)=i:=by omega
 simp [rL,List.getElem?_range (show i.toNat<s.size.toNat by omega),this]
set_option maxHeartbeats 1000000 in
theorem rread_yes {w:World} {r:Nat} {F:Nat→Prop} {s:St} (D:RefAt w r F s) (i:Int) (hi:s.has i) (hpl:s.pend.length<1048576) :
 Calls Tryz.prog 61 #[.pointer (some ⟨r,0,none⟩),.int .i64 i] w fun e w'=>e=.returned (.tuple #[.string (s.cur i),.int .i64 0])∧w=w':=by
 have hg2:=D.good.size2
 obtain ⟨vL,vW,vT,D⟩:=D
 obtain ⟨gL,cL,rfl,hL,_⟩:=own_at D.rowL (rL_at hi)
 obtain ⟨aW,cW,rfl⟩:=own_slice D.rowW
 obtain ⟨aT,cT,rfl⟩:=own_slice D.rowT
 have x0:=D.x0
 have x1:=D.x1
 have x2:=D.x2
 have RW:=Lib.hid D.rowW
 have RT:=Lib.hid D.rowT
 have h0:=hi.1
 have hs:=hi.2
 have i1:(decide (i<0))=false:=by simp; omega
 have i2:(decide (max s.size 0≤i))=false:=by rw [decide_eq_false_iff_not]; omega
 have hlt2:i.toNat<s.size.toNat:=by omega
 have hii:i<max s.size 0:=by omega
 have hlt:i<(s.size.toNat:Int):=by omega
 clear D
 go_enter Tryz.func61,Tryz.ntmps61
 go_wp2_with fail
 go_loopg [6,7] s.pend.length (fun g z t wx=>∃ k:Nat,k+g=s.pend.length∧t=.int .i64 k∧z=.string (over (s.pend.take k) i (s.held i))∧w=wx)
 case atStart=>exact ⟨0,by omega,rfl,rfl,rfl⟩
 case round =>
  obtain ⟨k,hk,rfl,rfl,rfl⟩:=hrel
  cases gk with
  | zero =>
    obtain rfl:k=s.pend.length:=by omega
    have E:over (s.pend.take s.pend.length) i (s.held i)=s.cur i:=by rw [List.take_length]; rfl
    go_wp2_with fail
    go_ret2
    exact ⟨by rw [E]; rfl,rfl⟩
  | succ g =>
    have hlt:k<s.pend.length:=by omega
    have e2:s.pend[k]? = some s.pend[k]:=List.getElem?_eq_getElem hlt
    have ht:s.pend.take (k+1)=s.pend.take k++[s.pend[k]]:=by rw [List.take_succ_eq_append_getElem hlt]
    generalize s.pend[k]=p at e2 ht
    obtain ⟨gW,c',eW,hW,_⟩:=own_at (u:=.int .i64 p.1) (k:=k) RW.out (by simp [rW,e2])
    obtain ⟨gT,c'',eT,hT,_⟩:=own_at (u:=.string p.2) (k:=k) RT.out (by simp [rT,e2])
    have eW' : aW=some ⟨gW,0,none⟩:=by injection eW
    have eT' : aT=some ⟨gT,0,none⟩:=by injection eT
    subst eW' eT'
    have hst:=over_snoc (s.pend.take k) p i (s.held i)
    rw [← ht] at hst
    clear eW eT e2 ht
    have HK:=Lib.hid hk
    by_cases e:p.1=i
    ·rw [if_pos e] at hst
     have eb:(p.1 == i)=true:=by simp [e]
     clear hk
     go_wp2_with fail
     go_roundg g
     case measure=>omega
     case rel=>exact ⟨k+1,by have:=HK.out; omega,by go_num,by rw [hst],rfl⟩
    ·rw [if_neg e] at hst
     have eb:(p.1 == i)=false:=by simp [e]
     clear hk
     go_wp2_with fail
     go_roundg g
     case measure=>omega
     case rel=>exact ⟨k+1,by have:=HK.out; omega,by go_num,by rw [hst],rfl⟩
open Go.RowKit Go.MapKept Go.Lib
set_option linter.unusedVariables false
theorem own_set {w:World} {base:Nat} {e:TypeId} {n k g c:Nat} {xs:List Value} (u:Value) (ho:w.ownsRow base e 1 (.slice (some ⟨g,0,none⟩) n c) n xs) (hk:k<n) :
 (w.setCell ⟨g,k,none⟩ u).ownsRow base e 1 (.slice (some ⟨g,0,none⟩) n c) n (xs.set k u):=by
 have h1:=ho.1
 rcases ho.2 with ⟨h,_⟩ | ⟨g',cap,cur,h,hb,hh,a1,a2,a3,a4⟩
 ·cases h
 ·injection h with e1 e2 e3
  injection e1 with e1
  injection e1 with e1
  subst e1 e3
  refine ⟨by simpa using h1,.inr ⟨g,c,cur.setIfInBounds k u,rfl,hb,Blk.set_ (t:=e) hh k u,a1,a2,by simpa using a3,?_⟩⟩
  rw [← a4]
  simp [List.take_set]
section
variable {w w' : World} {r gL cL:Nat} {vW vT:Value} {F:Nat→Prop} {s:St}
theorem rL_set {i:Int} (hi:s.has i) (y:ByteArray):(rL s).set i.toNat (.string y)=rL (s.did fun j=>if j=i then y else s.held j):=by
 have h1:=hi.1
 have h2:=hi.2
 apply List.ext_getElem?
 intro k
 rw [List.getElem?_set]
 simp only [rL,St.did,List.length_map,List.length_range,List.getElem?_map]
 by_cases hk:k<s.size.toNat
 ·rw [List.getElem?_range hk]
  by_cases e:i.toNat=k
  ·rw [if_pos e,if_pos (by omega)]
   simp only [Option.map_some]
   rw [if_pos (by omega)]
  ·rw [if_neg e]
   simp only [Option.map_some]
   rw [if_neg (by omega)]
 ·rw [if_neg (by omega)]
  rw [List.getElem?_eq_none (by simp; omega)]
  rfl
theorem RefIn.put (D:RefIn w r (.slice (some ⟨gL,0,none⟩) s.size.toNat cL) vW vT F s) (i:Int) (hi:s.has i) (y:ByteArray) (hy:y.size=128) :
 RefIn (w.setCell ⟨gL,i.toNat,none⟩ (.string y)) r (.slice (some ⟨gL,0,none⟩) s.size.toNat cL) vW vT F (s.did fun j=>if j=i then y else s.held j)
  ∧ Only F w (w.setCell ⟨gL,i.toNat,none⟩ (.string y)):=by
 have h1:=hi.1
 have h2:=hi.2
 have fg:=D.fL gL rfl
 have hs:∀ b,b≠gL→(w.setCell ⟨gL,i.toNat,none⟩ (.string y)).heap[b]? = w.heap[b]?:=fun b hb=>Below.heap_setCell _ _ _ _ hb
 have ne_r:gL≠r:=fun e=>D.rl (by rw [e]; rfl)
 have ne_T:∀ g,vT.ownBlock=some g→g≠gL:=fun g hg e=>D.LT gL rfl (by rw [hg,e])
 have ne_W:∀ g,vW.ownBlock=some g→g≠gL:=fun g hg e=>own_ne2 D.rowW D.rowL (by decide) g hg (by rw [e]; rfl)
 refine ⟨⟨D.fr,D.fL,D.fW,D.fT,D.LT,(hs r (Ne.symm ne_r)).trans D.blk,?_,own_same D.rowW (fun g hg=>hs g (ne_W g hg)),own_same D.rowT (fun g hg=>hs g (ne_T g hg)),fun b hb=>by have:=D.lt b hb; simpa [World.setCell] using this,D.good.did (fun j=>by split; exact hy; exact D.good.held j)⟩,
  (Only.refl F w).setCell (p:=⟨gL,i.toNat,none⟩) (.inl fg) _⟩
 rw [← rL_set hi y]
 exact own_set (.string y) D.rowL (by omega)
theorem RefIn.drew {vL:Value} (D:RefIn w r vL vW vT F s):RefIn w.drew r vL vW vT F s:=D.same (fun _ _=>rfl) (Nat.le_refl _)
theorem RefIn.drop {vL:Value} {q:Int} {s' : St} (D:RefIn w r vL vW vT F s) (hb:Blk w' r 53 #[vL,.slice none 0 0,.slice none 0 0,.int .i64 (leftR s')]) (ho:Only (fun i=>i=r) w w') (h1:s'.held=s.held) (h2:s'.pend=[]) (h3:s'.size=s.size) (hg:s'.Good) :
 RefIn w' r vL (.slice none 0 0) (.slice none 0 0) F s':=by
 have eL:rL s' = rL s:=by unfold rL; rw [h1,h3]
 have nil:∀ e,w'.ownsRow 0 e 1 (.slice none 0 0) 0 []:=fun e=>⟨rfl,.inl ⟨rfl,rfl⟩⟩
 refine ⟨D.fr,D.fL,fun g hg=>by simp [Value.ownBlock] at hg,fun g hg=>by simp [Value.ownBlock] at hg,fun g hg hh=>by simp [Value.ownBlock] at hh,hb,?_,by rw [h2]; exact nil _,by rw [h2]; exact nil _,fun b hb=>Nat.lt_of_lt_of_le (D.lt b hb) ho.size,hg⟩
 rw [eL,h3]
 exact own_same D.rowL (fun g hg=>ho.block g (D.rowL.lt g hg).2 (fun e=>D.rl (by rw [hg,e])))
end
theorem rflush_dead {w:World} {r:Nat} {F:Nat→Prop} {s:St} (D:RefAt w r F s) (hd:s.dead) :
 Calls Tryz.prog 95 #[.pointer (some ⟨r,0,none⟩)] w fun e w'=>e=.returned (.int .i64 9)∧w=w':=by
 go_enter Tryz.func95,Tryz.ntmps95
 go_wp2_with fail
 refine (ruse_no D hd).mono ?_
 rintro e w1 ⟨rfl,rfl⟩
 go_wp2_with fail
 go_ret
 exact ⟨rfl,rfl⟩
theorem did_all {h:Int→ByteArray} {p:Int × ByteArray} (hh:∀ i,(h i).size=128) (hp:p.2.size=128):do1 h p 128=fun j=>if j=p.1 then p.2 else h j:=by
 funext j; unfold do1; split
 ·rw [mix_all _ _ hp (hh j)]
 ·rfl
set_option maxHeartbeats 1000000 in
theorem rflush_yes {w:World} {r:Nat} {F:Nat→Prop} {s:St} (D:RefAt w r F s) (hd:¬ s.dead) (hpl:s.pend.length<1048576) :
 Calls Tryz.prog 95 #[.pointer (some ⟨r,0,none⟩)] w fun e w'=>e=.returned (.int .i64 0)∧RefAt w' r F s.flush∧Only F w w':=by
 have hgood:s.flush.Good:=D.good.flush hd
 go_enter Tryz.func95,Tryz.ntmps95
 go_wp2_with fail
 refine (ruse_yes D hd).mono ?_
 rintro e w1 ⟨rfl,D1,O1⟩
 have hg1:=D1.good
 obtain ⟨vL,vW,vT,D2⟩:=D1
 obtain ⟨gL,cL,rfl,_⟩:=own_at D2.rowL (rL_at (s:=s.use) (i:=0) ⟨Int.le_refl _,by have:=hg1.size1; omega⟩)
 obtain ⟨aW,cW,rfl⟩:=own_slice D2.rowW
 obtain ⟨aT,cT,rfl⟩:=own_slice D2.rowT
 have hpl' : s.use.pend.length<1048576:=hpl
 have HG:=Lib.hid hgood
 clear hgood D
 go_wp2_with fail
 go_loopg [3] s.use.pend.length (fun g t wx=>∃ k:Nat,k+g=s.use.pend.length∧t=.int .i64 k∧RefIn wx r (.slice (some ⟨gL,0,none⟩) s.use.size.toNat cL) (.slice aW s.use.pend.length cW) (.slice aT s.use.pend.length cT) F (s.use.did (crashTo (fun _=>true) 0 0 s.use.pend s.use.held k))∧Only F w wx)
 case atStart=>exact ⟨0,by omega,rfl,D2,O1⟩
 case round =>
  obtain ⟨k,hk,rfl,D3,O3⟩:=hrel
  clear D2 O1
  cases gk with
  | zero =>
    obtain rfl:k=s.use.pend.length:=by omega
    have x1:=D3.x1
    have f1:=D3.blk.frozen 1
    have f2:=D3.blk.frozen 2
    have x2:=D3.x2
    have B1:=(D3.blk.set_ 1 (.slice none 0 0)).set_ 2 (.slice none 0 0)
    simp only [List.setIfInBounds_toArray,List.set_cons_succ,List.set_cons_zero] at B1
    have o1:Only (fun i=>i=r) wr ((wr.setCell ⟨r,1,none⟩ (.slice none 0 0)).setCell ⟨r,2,none⟩ (.slice none 0 0)) :=
     ((Only.refl (fun i=>i=r) wr).setCell (p:=⟨r,1,none⟩) (.inl rfl) _).setCell (p:=⟨r,2,none⟩) (.inl rfl) _
    have D4:=RefIn.drop (q:=0) (s':=s.flush) D3 B1 o1 rfl rfl rfl HG.out
    have HD:=Lib.hid (⟨_,_,_,D4⟩:RefAt _ r F s.flush)
    have HO:=Lib.hid (O3.trans o1 (fun i e=>.inl (by rw [e]; exact D3.fr)))
    clear D4 D3 B1 o1 O3
    go_wp2_with fail
    go_ret
    exact ⟨rfl,HD.out,HO.out⟩
  | succ g =>
    have hlt:k<s.use.pend.length:=by omega
    have hkz:(0:Int)≤(k:Int):=by omega
    have hkz2:(k:Int)<(s.use.pend.length:Int):=by omega
    have e2:s.use.pend[k]? = some s.use.pend[k]:=List.getElem?_eq_getElem hlt
    generalize s.use.pend[k]=p at e2
    have hpg:=D3.good.pend p (List.mem_of_getElem? e2)
    have x0:=D3.x0
    have x1:=D3.x1
    have x2:=D3.x2
    have hst:=crashTo_step (keep:=fun _=>true) (torn:=0) (n:=0) (h:=s.use.held) e2
    obtain ⟨gW,c',eW,hW,_⟩:=own_at (u:=.int .i64 p.1) (k:=k) D3.rowW (by show (rW s.use.pend)[k]? = _; simp [rW,e2])
    obtain ⟨gT,c'',eT,hT,_⟩:=own_at (u:=.string p.2) (k:=k) D3.rowT (by show (rT s.use.pend)[k]? = _; simp [rT,e2])
    obtain ⟨gL',cL',eL,hL,fL⟩:=own_at D3.rowL (rL_at (i:=p.1) hpg.2)
    have eW' : aW=some ⟨gW,0,none⟩:=by injection eW
    have eT' : aT=some ⟨gT,0,none⟩:=by injection eT
    have eL' : gL=gL':=by injection eL with a; injection a with a; injection a
    subst eW' eT' eL'
    obtain ⟨D4,O4⟩:=RefIn.put D3 p.1 hpg.2 p.2 hpg.1
    have D5:RefIn (wr.setCell ⟨gL,p.1.toNat,none⟩ (.string p.2)) r (.slice (some ⟨gL,0,none⟩) s.use.size.toNat cL) (.slice (some ⟨gW,0,none⟩) s.use.pend.length cW) (.slice (some ⟨gT,0,none⟩) s.use.pend.length cT) F (s.use.did (crashTo (fun _=>true) 0 0 s.use.pend s.use.held (k+1))):=by
     rw [hst,if_pos rfl,did_all (h:=crashTo (fun _=>true) 0 0 s.use.pend s.use.held k) (fun i=>D3.good.held i) hpg.1]
     exact D4
    have HD:=Lib.hid D5
    have HO:=Lib.hid (O3.trans O4 (fun i hi=>.inl hi))
    have p1:=hpg.2.1
    have p2:p.1<s.use.size:=hpg.2.2
    have p3:p.1.toNat<s.use.size.toNat:=by omega
    have p4:p.1<(s.use.size.toNat:Int):=by omega
    have p5:p.1<max s.use.size 0:=by omega
    have HK:=Lib.hid hk
    clear D4 D5 D3 O4 O3 hst eW eT eL e2 hpg hk HG
    go_wp2_with fail
    refine wp_region_still_tail 19 (by kernel_rfl) (by kernel_rfl) ?_
    simp only [List.take_succ_cons,List.take_zero,List.drop_succ_cons,List.drop_zero]
    change wpStill _ _ wr.drew (fun a'=>wpList _ _ _ _ a' wr.drew) _ _
    repeat still_step
    refine wpStill_nil ?_
    go_wp2_with fail
    go_roundg g
    case measure=>omega
    case rel=>exact ⟨k+1,by have:=HK.out; omega,by go_num,HD.out.drew,HO.out.drew⟩
open Go.RowKit Go.MapKept Go.Lib
set_option linter.unusedVariables false
theorem rnew_no {w:World} (n:Int) (hn:n<1∨4096<n) :
 Calls Tryz.prog 12 #[.int .i64 n] w fun e w'=>e=.returned (.tuple #[.pointer none,.int .i64 1])∧w=w':=by
 rcases hn with h|h
 ·go_enter Tryz.func12,Tryz.ntmps12
  go_wp2_with fail
  go_ret2
  exact ⟨rfl,rfl⟩
 ·have h1:¬ n<1:=by omega
  go_enter Tryz.func12,Tryz.ntmps12
  go_wp2_with fail
  go_ret2
  exact ⟨rfl,rfl⟩
set_option maxHeartbeats 1000000 in
theorem rnew_yes {w:World} (n:Int) (h1:1≤n) (h2:n≤4096) :
 Calls Tryz.prog 12 #[.int .i64 n] w fun e w'=>∃ r F,e=.returned (.tuple #[.pointer (some ⟨r,0,none⟩),.int .i64 0])∧RefAt w' r F (St.new n)∧(∀ b,F b→w.heap.size≤b)∧Below w.heap.size w w':=by
 have hn1:¬ n<1:=by omega
 have hn2:¬ 4096<n:=by omega
 go_enter Tryz.func12,Tryz.ntmps12
 go_wp2_with fail
 refine (zero_any _).mono ?_
 rintro e w' ⟨rfl,rfl⟩
 have B0:=Blk.new w 53 #[.slice none 0 0,.slice none 0 0,.slice none 0 0,.int .i64 (-1)]
 have O0:Only (fun _=>False) w (w.alloc (.cells #[.slice none 0 0,.slice none 0 0,.slice none 0 0,.int .i64 (-1)] 53)):=(Only.refl _ w).alloc _
 have hw2:(Tryz.prog.info? 9).map (fun i=>(i.zero,i.size,i.bytes))=some (some (.string ByteArray.empty),1,16):=by kernel_rfl
 obtain ⟨j0,hj0,hy0,hy1,hy2⟩:=info_parts hw2
 have hr0:w.heap.size≤w.heap.size:=Nat.le_refl _
 generalize hr:w.heap.size=r at B0
 have HR:=Lib.hid hr
 generalize w.alloc (.cells #[.slice none 0 0,.slice none 0 0,.slice none 0 0,.int .i64 (-1)] 53)=w1 at *
 clear hr hw2
 go_wp2_with fail
 go_loopg [6] n.toNat (fun g t wx=>∃ (k:Nat) (A:Option Addr) (c:Nat),k+g=n.toNat∧t=.int .i64 k∧Blk wx r 53 #[.slice A k c,.slice none 0 0,.slice none 0 0,.int .i64 (-1)]
  ∧ wx.ownsRow 0 9 1 (.slice A k c) k (List.replicate k (.string zeroS))∧(∀ g,(Value.slice A k c).ownBlock=some g→w.heap.size≤g)∧Only (fun _=>False) w wx)
 case atStart=>exact ⟨0,none,0,by omega,rfl,B0,⟨rfl,.inl ⟨rfl,rfl⟩⟩,fun g hg=>by simp [Value.ownBlock] at hg,O0⟩
 case round =>
  obtain ⟨k,A,c,hkg,rfl,B3,R3,N3,O3⟩:=hrel
  clear B0 O0
  cases gk with
  | zero =>
    obtain rfl:k=n.toNat:=by omega
    have hb:decide ((n.toNat:Int)<n)=false:=by simp; omega
    have hb2:¬ (max n 0<n):=by omega
    have FIN:RefAt wr r (fun b=>w.heap.size≤b∧b<wr.heap.size) (St.new n):=by
     have nil:∀ e,wr.ownsRow 0 e 1 (.slice none 0 0) 0 []:=fun e=>⟨rfl,.inl ⟨rfl,rfl⟩⟩
     have eL:rL (St.new n)=List.replicate n.toNat (.string zeroS):=by
      simp only [rL,St.new]
      rw [List.map_const',List.length_range]
     refine ⟨_,_,_,⟨⟨Nat.le_of_eq HR.out,B3.lt⟩,fun g hg=>⟨N3 g hg,(R3.lt g hg).2⟩,fun g hg=>by simp [Value.ownBlock] at hg,fun g hg=>by simp [Value.ownBlock] at hg,fun g hg hh=>by simp [Value.ownBlock] at hh,B3,?_,nil _,nil _,fun b hb=>hb.2,St.Good.new h1 h2⟩⟩
     rw [eL]; exact R3
    have HF:=Lib.hid FIN
    have HO:=Lib.hid (O3.below (N:=w.heap.size) (Nat.le_refl _) (fun i hi=>hi.elim))
    clear FIN B3 R3 N3 O3 hkg
    go_wp2_with fail
    go_ret2
    exact ⟨r,rfl,(fun b=>w.heap.size≤b∧b<wr.heap.size),HF.out,fun b hb=>hb.1,HO.out⟩
  | succ g =>
    have hb1:(k:Int)<n:=by omega
    have hk4:k<4096:=by omega
    have x0:=B3.cell 0
    simp only [List.getElem?_toArray,List.getElem?_cons_zero] at x0
    have HKG:=Lib.hid hkg
    clear hkg
    go_wp2_with (at_builtin; refine wpList_append_own_at _ rfl _ _ _ rfl 0 9 j0 _ 1 16 Tryz.underlying50 hj0 hy0 hy1 hy2 rfl (by omega) (.slice A k c) k _ rfl (R3.alloc _) ⟨wr.heap.size,0,none⟩ 1 1 [.string zeroS] rfl rfl (fun j u hu=>by
     rw [Addr.add_mid,Nat.zero_add]
     have:=(Blk.new wr 9 #[.string zeroS]).cell j
     exact this.trans (by simpa using hu)) (by simp [Value.oneCell']) (by simp only [maxLen]; omega) (by omega) (Nat.zero_le _) ?_)
    intro v5 W5 own5 g5 _ hat5
    obtain ⟨A5,n5,rfl⟩:=own_slice own5
    obtain ⟨B5,R5,o5,h5⟩:=push_row (k:=0) B3 R3 (by decide) g5 own5 hat5
    have p5:Blk W5 r 53 _:=Blk.grown (B3.alloc _) g5 (fun e=>own_ne R3 B3 (by decide) e.symm)
    have q5:=p5.cell 0
    have f5:=p5.frozen 0
    simp only [List.getElem?_toArray,List.getElem?_cons_zero] at q5
    simp only [List.setIfInBounds_toArray,List.set_cons_zero] at B5
    have eR:List.replicate k (Value.string zeroS)++[.string zeroS]=List.replicate (k+1) (.string zeroS):=by rw [List.replicate_succ']
    rw [eR] at R5
    have N5:∀ g,(Value.slice A5 (k+1) n5).ownBlock=some g→w.heap.size≤g:=fun g hg=>(h5 g hg).elim (N3 g) (fun e=>Nat.le_trans O3.size e)
    have O5:=O3.trans o5 (fun i hi=>.inr (hi.elim (fun e=>by rw [e]; exact Nat.le_of_eq HR.out) (fun e=>N3 i e)))
    have H:=Lib.hid (And.intro B5 (And.intro R5 (And.intro N5 O5)))
    clear B5 R5 N5 O5 B3 R3 N3 O3 own5 g5 hat5 o5 h5 p5 eR
    go_wp2_with fail
    go_roundg g
    case measure=>omega
    case rel=>exact ⟨k+1,A5,n5,by have:=HKG.out; omega,by go_num,H.out.1,H.out.2.1,H.out.2.2.1,H.out.2.2.2⟩
open Go.RowKit Go.MapKept Go.Lib
set_option linter.unusedVariables false
def refI (r:Nat) (s:St):Item:=⟨fun w G=>RefAt w r G s,fun ⟨a,b,c,D⟩ hs hz=>⟨a,b,c,D.same hs hz⟩,fun D=>D.lt⟩
section
variable {W w:World} {items:List Item} {k r:Nat} {s:St}
theorem rwrite_s (h:Sep W w items) (hk:items[k]? = some (refI r s)) (i:Int) (x:ByteArray) (hi:s.has i) (hx:x.size=128) (hd:¬ s.dead) (hpl:s.pend.length<1048576) :
 Calls Tryz.prog 97 #[.pointer (some ⟨r,0,none⟩),.int .i64 i,.string x] w fun e w'=>e=.returned (.int .i64 0)∧Sep W w' (items.set k (refI r (s.write i x))):=by
 obtain ⟨G,hG,_,_,put⟩:=h.at_ k hk
 exact (rwrite_yes hG i x hi hx hd hpl).mono fun e w' ⟨he,⟨F',hF,hg⟩,ho⟩=>⟨he,put w' F' (refI r (s.write i x)) hF hg ho⟩
theorem rwrite_dead_s (h:Sep W w items) (hk:items[k]? = some (refI r s)) (i:Int) (x:ByteArray) (hi:s.has i) (hx:x.size=128) (hd:s.dead) :
 Calls Tryz.prog 97 #[.pointer (some ⟨r,0,none⟩),.int .i64 i,.string x] w fun e w'=>e=.returned (.int .i64 9)∧w=w':=by
 obtain ⟨G,hG,_⟩:=h.at_ k hk
 exact rwrite_dead hG i x hi hx hd
theorem rread_s (h:Sep W w items) (hk:items[k]? = some (refI r s)) (i:Int) (hi:s.has i) (hpl:s.pend.length<1048576) :
 Calls Tryz.prog 61 #[.pointer (some ⟨r,0,none⟩),.int .i64 i] w fun e w'=>e=.returned (.tuple #[.string (s.cur i),.int .i64 0])∧w=w':=by
 obtain ⟨G,hG,_⟩:=h.at_ k hk
 exact rread_yes hG i hi hpl
theorem rflush_s (h:Sep W w items) (hk:items[k]? = some (refI r s)) (hd:¬ s.dead) (hpl:s.pend.length<1048576) :
 Calls Tryz.prog 95 #[.pointer (some ⟨r,0,none⟩)] w fun e w'=>e=.returned (.int .i64 0)∧Sep W w' (items.set k (refI r s.flush)):=by
 obtain ⟨G,hG,_,_,put⟩:=h.at_ k hk
 exact (rflush_yes hG hd hpl).mono fun e w' ⟨he,hF,ho⟩=>⟨he,put w' G (refI r s.flush) hF (Grew.refl _ _) ho⟩
theorem rflush_dead_s (h:Sep W w items) (hk:items[k]? = some (refI r s)) (hd:s.dead) :
 Calls Tryz.prog 95 #[.pointer (some ⟨r,0,none⟩)] w fun e w'=>e=.returned (.int .i64 9)∧w=w':=by
 obtain ⟨G,hG,_⟩:=h.at_ k hk
 exact rflush_dead hG hd
theorem rlimit_s (h:Sep W w items) (hk:items[k]? = some (refI r s)) (n:Int) (h1:-9223372036854775808≤n) (h2:n≤9223372036854775807) :
 Calls Tryz.prog 16 #[.pointer (some ⟨r,0,none⟩),.int .i64 n] w fun e w'=>e=.returned (.tuple #[])∧Sep W w' (items.set k (refI r (s.limit n))):=by
 obtain ⟨G,hG,_,_,put⟩:=h.at_ k hk
 exact (rlimit_any hG n h1 h2).mono fun e w' ⟨he,hF,ho⟩=>⟨he,put w' G (refI r (s.limit n)) hF (Grew.refl _ _) ho⟩
theorem rnew_s (h:Sep W w items) (n:Int) (h1:1≤n) (h2:n≤4096) :
 Calls Tryz.prog 12 #[.int .i64 n] w fun e w'=>∃ r,e=.returned (.tuple #[.pointer (some ⟨r,0,none⟩),.int .i64 0])∧Sep W w' (items++[refI r (St.new n)]) :=
 (rnew_yes n h1 h2).mono fun e w' ⟨r,F,he,hF,hn,hb⟩=>⟨r,he,h.new (refI r (St.new n)) hF hn hb⟩
end
open Go.RowKit Go.MapKept Go.Lib
set_option linter.unusedVariables false
theorem ref_len {W w:World} {items:List Item} {k r:Nat} {s:St} (h:Sep W w items) (hk:items[k]? = some (refI r s)):∃ a c,w.cell? ⟨r,0,none⟩=some (.slice a s.size.toNat c):=by
 obtain ⟨G,⟨vL,vW,vT,D⟩,_⟩:=h.at_ k hk
 obtain ⟨a,c,rfl⟩:=own_slice D.rowL
 exact ⟨a,c,D.x0⟩
set_option maxHeartbeats 1000000 in
theorem same_s {W w:World} {items:List Item} {j k d r:Nat} {s:St} (h:Sep W w items) (hj:items[j]? = some (diskI d s)) (hk:items[k]? = some (refI r s)) (hpl:s.pend.length<1048576) :
 Calls Tryz.prog 19 #[.pointer (some ⟨d,0,none⟩),.pointer (some ⟨r,0,none⟩)] w fun e w'=>e=.returned (.int .i64 1)∧Sep W w' items:=by
 have hg:=good_s h j hj
 have g1:=hg.size1
 have g2:=hg.size2
 clear hg
 go_enter Tryz.func19,Tryz.ntmps19
 go_wp2_with fail
 go_loopg [5,6,7,8,9] (min s.size 64).toNat (fun g t a b c e wx=>∃ i:Nat,i+g=(min s.size 64).toNat∧t=.int .i64 i∧Sep W wx items)
 case atStart=>exact ⟨0,by omega,rfl,h⟩
 case round =>
  obtain ⟨i,hig,rfl,h3⟩:=hrel
  clear h
  obtain ⟨a,c,x0⟩:=ref_len h3 hk
  cases gk with
  | zero =>
    have HI:=Lib.hid hig
    by_cases h64:s.size≤64
    ·have e:(i:Int)=s.size:=by omega
     have b1:decide ((i:Int)<max s.size 0)=false:=by rw [decide_eq_false_iff_not]; omega
     have b2:¬ (i:Int)<max s.size 0:=by omega
     clear hig e
     go_wp2_with fail
     go_ret
     exact ⟨rfl,h3⟩
    ·have e:i=64:=by omega
     subst e
     have b1:(64:Int)<max s.size 0:=by omega
     clear hig
     go_wp2_with fail
     go_ret
     exact ⟨rfl,h3⟩
  | succ g =>
    have b1:(i:Int)<max s.size 0:=by omega
    have b2:(i:Int)<64:=by omega
    have hi:s.has (i:Int):=⟨by omega,by omega⟩
    have HIG:=Lib.hid hig
    clear hig
    go_wp2_with fail
    refine (read_s h3 j hj i hi _ rfl).mono ?_
    rintro e w4 ⟨rfl,h4⟩
    clear x0 h3
    go_wp2_with fail
    refine (rread_s h4 hk i hi hpl).mono ?_
    rintro e w5 ⟨rfl,rfl⟩
    go_wp2_with fail
    go_roundg g
    case measure=>omega
    case rel=>exact ⟨i+1,by have:=HIG.out; omega,by go_num,h4⟩
end Go.Proofs.YtdpmjlbkojhooaaGreat.Dk
