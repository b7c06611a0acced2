/- A part. -/
import Derived.Test.YtcnohlgigmmefaaGreatPLwD
import Derived.Test.YtcnohlgigmmefaaGreatPMem
import Derived.Test.YtcnohlgigmmefaaGreatPClass
namespace Go.Proofs.YtcnohlgigmmefaaGreat.Dk
open Go.RowKit Go.Lib
set_option linter.unusedVariables false
set_option maxRecDepth 100000
open Go.RowKit Go.MapKept Go.Lib
set_option linter.unusedVariables false
def OwnR (W w:World) (d:Nat) (s:St) (v:Value) (n:Nat) (xs:List Value):Prop :=
 ∃ F,DiskAt w d F s∧(∀ b,F b→W.heap.size≤b)∧Below W.heap.size W w∧w.ownsRow W.heap.size 9 1 v n xs∧∀ g,v.ownBlock=some g→¬ F g
section
variable {W w w' : World} {d n:Nat} {s:St} {v:Value} {xs:List Value}
theorem OwnR.below (h:OwnR W w d s v n xs):Below W.heap.size W w:=let ⟨_,_,_,hb,_⟩:=h; hb
theorem OwnR.good (h:OwnR W w d s v n xs):s.Good:=let ⟨_,hd,_⟩:=h; hd.good
theorem OwnR.row (h:OwnR W w d s v n xs):w.ownsRow W.heap.size 9 1 v n xs:=let ⟨_,_,_,_,hr,_⟩:=h; hr
theorem OwnR.own (h:OwnR W w d s v n xs):Own W w d s:=let ⟨F,hd,hF,hb,_⟩:=h; ⟨F,hd,hF,hb⟩
theorem OwnR.later (h:OwnR W w d s v n xs) (hb:Below w.heap.size w w'):OwnR W w' d s v n xs:=by
 obtain ⟨F,hd,hF,hW,hr,hn⟩:=h
 exact ⟨F,hd.later hb,hF,hW.trans (hb.mono hW.size),own_same hr (fun g hg=>hb.block g (hr.lt g hg).2),hn⟩
theorem OwnR.drew (h:OwnR W w d s v n xs):OwnR W w.drew d s v n xs:=h.later (Below.refl _ _).drew
theorem OwnR.alloc (h:OwnR W w d s v n xs) (o:Obj):OwnR W (w.alloc o) d s v n xs:=h.later ((Below.refl _ _).alloc (Nat.le_refl _) o)
theorem ownR_step {F F' : Nat→Prop} {s' : St} (hF:∀ b,F b→W.heap.size≤b) (hW:Below W.heap.size W w) (hr:w.ownsRow W.heap.size 9 1 v n xs) (hn:∀ g,v.ownBlock=some g→¬ F g)
 (D:DiskAt w' d F' s') (hG:Grew w F F') (hO:Only F w w'):OwnR W w' d s' v n xs:=by
 refine ⟨F',D,fun b hb=>(hG b hb).elim (hF b) (fun e=>Nat.le_trans hW.size e),hW.trans (hO.below hW.size hF),own_same hr (fun g hg=>hO.block g (hr.lt g hg).2 (hn g hg)),fun g hg hf=>?_⟩
 rcases hG g hf with h1|h1
 ·exact hn g hg h1
 ·have:=(hr.lt g hg).2; omega
theorem write_r (h:OwnR W w d s v n xs) (i:Int) (x:ByteArray) (hi:s.has i) (hx:x.size=128) (hd:¬ s.dead) (hpl:s.pend.length<1048576) :
 Calls Tryz.prog 32 #[.pointer (some ⟨d,0,none⟩),.int .i64 i,.string x] w fun e w'=>e=.returned (.int .i64 0)∧OwnR W w' d (s.write i x) v n xs:=by
 obtain ⟨F,D,hF,hW,hr,hn⟩:=h
 exact (write_yes D i x hi hx hd hpl).mono fun e w' ⟨he,⟨F',D',hG⟩,hO⟩=>⟨he,ownR_step hF hW hr hn D' hG hO⟩
theorem flush_r (h:OwnR W w d s v n xs) (hd:¬ s.dead) (hpl:s.pend.length<1048576) :
 Calls Tryz.prog 36 #[.pointer (some ⟨d,0,none⟩)] w fun e w'=>e=.returned (.int .i64 0)∧OwnR W w' d s.flush v n xs:=by
 obtain ⟨F,D,hF,hW,hr,hn⟩:=h
 exact (flush_yes D hd hpl).mono fun e w' ⟨he,⟨F',D',hG⟩,hO⟩=>⟨he,ownR_step hF hW hr hn D' hG hO⟩
theorem keep_old {F:Nat→Prop} {A:Option Addr} {m:Nat} {keep:Nat→Bool} (hb:Below W.heap.size W w) (hF:∀ b,F b→W.heap.size≤b) (hc:CellsIn W A m (fun j=>.bool (keep j))) (hk:∀ j,m≤j→keep j=false):KeepIs w F A m keep:=by
 refine ⟨fun hm=>?_,hk⟩
 obtain ⟨b,o,e,hlt,hcell⟩:=hc hm
 exact ⟨b,o,e,fun hf=>by have:=hF b hf; omega,fun j hj=>(hb.cell (p:=⟨b,o+j,none⟩) hlt).trans (hcell j hj)⟩
theorem crash_r (h:OwnR W w d s v n xs) (A:Option Addr) (m c:Nat) (hm:m≤maxLen) (keep:Nat→Bool) (torn pos:Int) (hc:CellsIn W A m (fun j=>.bool (keep j))) (hk:∀ j,m≤j→keep j=false) (hpl:s.pend.length<1048576) :
 Calls Tryz.prog 39 #[.pointer (some ⟨d,0,none⟩),.slice A m c,.int .i64 torn,.int .i64 pos] w fun e w'=>e=.returned (.tuple #[])∧OwnR W w' d (s.crash keep torn (clampN pos)) v n xs:=by
 obtain ⟨F,D,hF,hW,hr,hn⟩:=h
 exact (crash_any D A m c hm keep torn pos (keep_old hW hF hc hk) hpl).mono fun e w' ⟨he,⟨F',D',hG⟩,hO⟩=>⟨he,ownR_step hF hW hr hn D' hG hO⟩
theorem OwnR.set {g cap:Nat} (h:OwnR W w d s (.slice (some ⟨g,0,none⟩) n cap) n xs) (j:Nat) (u:Value):OwnR W (w.setCell ⟨g,j,none⟩ u) d s (.slice (some ⟨g,0,none⟩) n cap) n (xs.set j u):=by
 obtain ⟨F,D,hF,hW,hr,hn⟩:=h
 have hg:=hn g rfl
 refine ⟨F,D.far (G:=fun b=>b=g) ((Only.refl (fun b=>b=g) w).setCell (p:=⟨g,j,none⟩) (.inl rfl) u) (fun i hi e=>hg (by rw [← e]; exact hi)),hF,hW.setCell (hr.lt g rfl).1 _,(hr.stored j u).1,hn⟩
theorem OwnR.cell {g cap:Nat} (h:OwnR W w d s (.slice (some ⟨g,0,none⟩) n cap) n xs) (j:Nat) (u:Value) (hj:xs[j]? = some u):w.cell? ⟨g,j,none⟩=some u:=by
 have:=h.row.cells (g:=g) rfl j u hj
 rw [Addr.add_mid,Nat.zero_add] at this
 exact this
theorem OwnR.free {g cap:Nat} (h:OwnR W w d s (.slice (some ⟨g,0,none⟩) n cap) n xs) (j:Nat):w.frozen? ⟨g,j,none⟩=false:=h.row.frozenAt j
end
theorem crashTo_append {keep:Nat→Bool} {torn:Int} {n:Nat} {h:Int→ByteArray} (l r:List (Int × ByteArray)):∀ k,k≤l.length→crashTo keep torn n (l++r) h k=crashTo keep torn n l h k
 | 0,_=>rfl
 | k+1,hk=>by
   have ih:=crashTo_append (keep:=keep) (torn:=torn) (n:=n) (h:=h) l r k (by omega)
   have e:(l++r)[k]? = l[k]?:=List.getElem?_append_left (by omega)
   simp only [crashTo,e,ih]
theorem over_size {l:List (Int × ByteArray)} (hl:∀ p∈l,p.2.size=128) (i:Int) (x:ByteArray) (hx:x.size=128):(over l i x).size=128:=by
 induction l generalizing x with
 | nil=>exact hx
 | cons p r ih =>
   show (over r i (if p.1=i then p.2 else x)).size=128
   refine ih (fun q hq=>hl q (by simp [hq])) _ ?_
   split
   ·exact hl p (by simp)
   ·exact hx
theorem crashTo_all {keep:Nat→Bool} {torn:Int} {n:Nat} {l:List (Int × ByteArray)} {h:Int→ByteArray} (hk:∀ k,k<l.length→keep k=true) (hl:∀ p∈l,p.2.size=128) (hh:∀ i,(h i).size=128) (i:Int) :
 ∀ k,k≤l.length→crashTo keep torn n l h k i=over (l.take k) i (h i)
 | 0,_=>rfl
 | k+1,hkl=>by
   have ih:=crashTo_all (keep:=keep) (torn:=torn) (n:=n) hk hl hh i k (by omega)
   have hlt:k<l.length:=by omega
   have e:l[k]? = some l[k]:=List.getElem?_eq_getElem hlt
   have hm:l[k]∈l:=List.getElem_mem hlt
   rw [crashTo_step e,hk k hlt,List.take_succ_eq_append_getElem hlt,over_snoc]
   simp only [if_true,do1]
   by_cases ej:i=l[k].1
   ·rw [if_pos ej,if_pos ej.symm,mix_all _ _ (hl _ hm) (crashTo_size hh hl _ _)]
   ·rw [if_neg ej,if_neg (fun h=>ej h.symm),ih]
theorem flush_held {s:St} (hg:s.Good) (i:Int):s.flush.held i=s.cur i:=by
 show crashTo (fun _=>true) 0 0 s.pend s.held s.pend.length i=_
 rw [crashTo_all (fun _ _=>rfl) (fun p hp=>(hg.pend p hp).1) hg.held i _ (Nat.le_refl _),List.take_length]
 rfl
theorem write_cur (s:St) (i:Int) (x:ByteArray) (j:Int):(s.write i x).cur j=if i=j then x else s.cur j:=by
 show over (s.pend++[(i,x)]) j (s.held j)=_
 rw [over_snoc]
 rfl
theorem cur_size {s:St} (hg:s.Good) (i:Int):(s.cur i).size=128:=over_size (fun p hp=>(hg.pend p hp).1) i _ (hg.held i)
open Go.RowKit Go.MapKept Go.Lib
set_option linter.unusedVariables false
structure Item where
 holds:World→(Nat→Prop)→Prop
 stable:∀ {w w' : World} {G:Nat→Prop},holds w G→(∀ b,G b→w'.heap[b]? = w.heap[b]?)→w.heap.size≤w'.heap.size→holds w' G
 lt:∀ {w:World} {G:Nat→Prop},holds w G→∀ b,G b→b<w.heap.size
theorem DiskIn.same {w w' : World} {d h l:Nat} {v:Value} {F:Nat→Prop} {s:St} (D:DiskIn w d h l v F s) (hs:∀ i,F i→w'.heap[i]? = w.heap[i]?) (hz:w.heap.size≤w'.heap.size):DiskIn w' d h l v F s :=
 ⟨D.fd,D.fh,D.fl,D.fv,D.hl,(hs d D.fd).trans D.blk,let ⟨f,h1,h2⟩:=D.held; ⟨f,h1.same (hs h D.fh),h2⟩,let ⟨f,h1,h2⟩:=D.last; ⟨f,h1.same (hs l D.fl),h2⟩,
  own_same D.own (fun g hg=>hs g (D.fv g hg)),fun b hb=>Nat.lt_of_lt_of_le (D.lt b hb) hz,D.good⟩
def diskI (d:Nat) (s:St):Item:=⟨fun w G=>DiskAt w d G s,fun ⟨h,l,v,D⟩ hs hz=>⟨h,l,v,D.same hs hz⟩,fun D=>D.lt⟩
def rowI (t:TypeId) (v:Value) (n:Nat) (xs:List Value):Item:=⟨fun w G=>w.ownsRow 0 t 1 v n xs∧∀ b,G b↔v.ownBlock=some b,fun ⟨h,hG⟩ hs hz=>⟨own_same h (fun g hg=>hs g ((hG g).2 hg)),hG⟩,fun ⟨h,hG⟩ b hb=>(h.lt b ((hG b).1 hb)).2⟩
def Sep (W w:World) (items:List Item):Prop :=
 Below W.heap.size W w∧∃ Gs:List (Nat→Prop),Gs.length=items.length∧(∀ (i:Nat) (it:Item) (G:Nat→Prop),items[i]? = some it→Gs[i]? = some G→it.holds w G) ∧
  (∀ (i j:Nat) (G H:Nat→Prop),i≠j→Gs[i]? = some G→Gs[j]? = some H→∀ b,G b→¬ H b)∧∀ (i:Nat) (G:Nat→Prop),Gs[i]? = some G→∀ b,G b→W.heap.size≤b
section
variable {W w w' : World} {items:List Item}
theorem Sep.below (h:Sep W w items):Below W.heap.size W w:=h.1
theorem Sep.later (h:Sep W w items) (hb:Below w.heap.size w w'):Sep W w' items:=by
 obtain ⟨hW,Gs,hl,hh,hd,hN⟩:=h
 refine ⟨hW.trans (hb.mono hW.size),Gs,hl,fun i it G hi hG=>?_,hd,hN⟩
 have:=hh i it G hi hG
 exact it.stable this (fun b hb'=>hb.block b (it.lt this b hb')) hb.size
theorem Sep.drew (h:Sep W w items):Sep W w.drew items:=h.later (Below.refl _ _).drew
theorem Sep.alloc (h:Sep W w items) (o:Obj):Sep W (w.alloc o) items:=h.later ((Below.refl _ _).alloc (Nat.le_refl _) o)
theorem Sep.nil (hW:Below W.heap.size W w):Sep W w []:=⟨hW,[],rfl,fun i it G hi _=>by simp at hi,fun i j G H _ hi _=>by simp at hi,fun i G hi=>by simp at hi⟩
theorem Sep.at_ (h:Sep W w items) (k:Nat) {it:Item} (hk:items[k]? = some it) :
 ∃ G:Nat→Prop,it.holds w G∧(∀ b,G b→W.heap.size≤b)∧(∀ (j:Nat) (it' : Item),items[j]? = some it'→j≠k→∃ H:Nat→Prop,it'.holds w H∧∀ b,H b→¬ G b) ∧
   ∀ (w' : World) (G' : Nat→Prop) (it' : Item),it'.holds w' G'→Grew w G G'→Only G w w'→Sep W w' (items.set k it'):=by
 obtain ⟨hW,Gs,hl,hh,hd,hN⟩:=h
 have hkl:k<Gs.length:=by rw [hl]; exact (List.getElem?_eq_some_iff.1 hk).1
 have hkG:Gs[k]? = some Gs[k]:=List.getElem?_eq_getElem hkl
 generalize Gs[k]=G at hkG
 have hG:=hh k it G hk hkG
 refine ⟨G,hG,hN k G hkG,fun j it' hj hjk=>?_,fun w' G' it' hG' hgr ho=>?_⟩
 ·have hjl:j<Gs.length:=by rw [hl]; exact (List.getElem?_eq_some_iff.1 hj).1
  have hjG:Gs[j]? = some Gs[j]:=List.getElem?_eq_getElem hjl
  exact ⟨Gs[j],hh j it' _ hj hjG,hd j k _ _ hjk hjG hkG⟩
 ·have hset:∀ (i:Nat) (H:Nat→Prop),(Gs.set k G')[i]? = some H→(i=k∧H=G')∨(i≠k∧Gs[i]? = some H):=fun i H hi=>by
   rw [List.getElem?_set] at hi
   by_cases e:k=i
   ·subst e
    rw [if_pos rfl,if_pos hkl] at hi
    injection hi with hi
    exact .inl ⟨rfl,hi.symm⟩
   ·rw [if_neg e] at hi
    exact .inr ⟨fun h=>e h.symm,hi⟩
  have hnew:∀ (i:Nat) (H:Nat→Prop),Gs[i]? = some H→i≠k→∀ b,H b→¬ G' b:=fun i H hi hne b hb hb'=>by
   rcases hgr b hb' with h1|h1
   ·exact hd i k H G hne hi hkG b hb h1
   ·have hil:i<items.length:=by rw [← hl]; exact (List.getElem?_eq_some_iff.1 hi).1
    have:=(items[i]).lt (hh i _ H (List.getElem?_eq_getElem hil) hi) b hb
    omega
  refine ⟨hW.trans (ho.below hW.size (hN k G hkG)),Gs.set k G',by simp [hl],fun i it2 H hi hH=>?_,fun i j H H' hij hi hj b hb hb'=>?_,fun i H hi b hb=>?_⟩
  ·rcases hset i H hH with ⟨rfl,rfl⟩ | ⟨hne,hH'⟩
   ·rw [List.getElem?_set_self (List.getElem?_eq_some_iff.1 hk).1] at hi
    injection hi with hi
    subst hi
    exact hG'
   ·rw [List.getElem?_set_ne (Ne.symm hne)] at hi
    have h2:=hh i it2 H hi hH'
    exact it2.stable h2 (fun b hb=>ho.block b (it2.lt h2 b hb) (hd i k H G hne hH' hkG b hb)) ho.size
  ·rcases hset i H hi with ⟨rfl,rfl⟩ | ⟨hne,hH⟩ <;> rcases hset j H' hj with ⟨rfl,rfl⟩ | ⟨hne',hH'⟩
   ·exact hij rfl
   ·exact hnew j H' hH' hne' b hb' hb
   ·exact hnew i H hH hne b hb hb'
   ·exact hd i j H H' hij hH hH' b hb hb'
  ·rcases hset i H hi with ⟨rfl,rfl⟩ | ⟨hne,hH⟩
   ·rcases hgr b hb with h1|h1
    ·exact hN _ G hkG b h1
    ·exact Nat.le_trans hW.size h1
   ·exact hN i H hH b hb
theorem Sep.new (h:Sep W w items) (it:Item) {G:Nat→Prop} (hG:it.holds w' G) (hn:∀ b,G b→w.heap.size≤b) (hb:Below w.heap.size w w'):Sep W w' (items++[it]):=by
 obtain ⟨hW,Gs,hl,hh,hd,hN⟩:=h
 have hlt:∀ (i:Nat) (H:Nat→Prop),Gs[i]? = some H→∀ b,H b→b<w.heap.size:=fun i H hi b hb=>by
  have hil:i<items.length:=by rw [← hl]; exact (List.getElem?_eq_some_iff.1 hi).1
  exact (items[i]).lt (hh i _ H (List.getElem?_eq_getElem hil) hi) b hb
 have hcase:∀ (i:Nat) (H:Nat→Prop),(Gs++[G])[i]? = some H→(i=Gs.length∧H=G)∨(i<Gs.length∧Gs[i]? = some H):=fun i H hi=>by
  rcases Nat.lt_or_ge i Gs.length with h1|h1
  ·rw [List.getElem?_append_left h1] at hi
   exact .inr ⟨h1,hi⟩
  ·rw [List.getElem?_append_right h1] at hi
   have hi0:i-Gs.length=0:=by
    rcases Nat.eq_zero_or_pos (i-Gs.length) with e|e
    ·exact e
    ·rw [List.getElem?_eq_none (by simp; omega)] at hi; cases hi
   rw [hi0] at hi
   exact .inl ⟨by omega,by simpa using hi.symm⟩
 refine ⟨hW.trans (hb.mono hW.size),Gs++[G],by simp [hl],fun i it2 H hi hH=>?_,fun i j H H' hij hi hj b hbb hb'=>?_,fun i H hi b hbb=>?_⟩
 ·rcases hcase i H hH with ⟨rfl,rfl⟩ | ⟨h1,h2⟩
  ·rw [hl,List.getElem?_append_right (Nat.le_refl _),Nat.sub_self] at hi
   have:it=it2:=by simpa using hi
   subst this
   exact hG
  ·rw [List.getElem?_append_left (by omega)] at hi
   have h3:=hh i it2 H hi h2
   exact it2.stable h3 (fun b hb'=>hb.block b (it2.lt h3 b hb')) hb.size
 ·rcases hcase i H hi with ⟨e1,rfl⟩ | ⟨h1,h2⟩ <;> rcases hcase j H' hj with ⟨e2,rfl⟩ | ⟨h3,h4⟩
  ·omega
  ·have:=hn b hbb; have:=hlt j H' h4 b hb'; omega
  ·have:=hn b hb'; have:=hlt i H h2 b hbb; omega
  ·exact hd i j H H' hij h2 h4 b hbb hb'
 ·rcases hcase i H hi with ⟨_,rfl⟩ | ⟨_,h2⟩
  ·exact Nat.le_trans hW.size (hn b hbb)
  ·exact hN i H h2 b hbb
variable {d:Nat} {s:St}
theorem new_s (h:Sep W w items) (n:Int) (h1:1≤n) (h2:n≤4096) :
 Calls Tryz.prog 29 #[.int .i64 n] w fun e w'=>∃ d,e=.returned (.tuple #[.pointer (some ⟨d,0,none⟩),.int .i64 0])∧Sep W w' (items++[diskI d (St.new n)]) :=
 (new_yes n h1 h2).mono fun e w' ⟨d,F,he,hD,hF,hb⟩=>⟨d,he,h.new (diskI d (St.new n)) hD hF hb⟩
theorem write_s (h:Sep W w items) (k:Nat) (hk:items[k]? = some (diskI d s)) (i:Int) (x:ByteArray) (hi:s.has i) (hx:x.size=128) (hd:¬ s.dead) (hpl:s.pend.length<1048576) :
 Calls Tryz.prog 32 #[.pointer (some ⟨d,0,none⟩),.int .i64 i,.string x] w fun e w'=>e=.returned (.int .i64 0)∧Sep W w' (items.set k (diskI d (s.write i x))):=by
 obtain ⟨G,D,_,_,hstep⟩:=h.at_ k hk
 exact (write_yes D i x hi hx hd hpl).mono fun e w' ⟨he,⟨F',D',hG⟩,hO⟩=>⟨he,hstep w' F' (diskI d (s.write i x)) D' hG hO⟩
theorem flush_s (h:Sep W w items) (k:Nat) (hk:items[k]? = some (diskI d s)) (hd:¬ s.dead) (hpl:s.pend.length<1048576) :
 Calls Tryz.prog 36 #[.pointer (some ⟨d,0,none⟩)] w fun e w'=>e=.returned (.int .i64 0)∧Sep W w' (items.set k (diskI d s.flush)):=by
 obtain ⟨G,D,_,_,hstep⟩:=h.at_ k hk
 exact (flush_yes D hd hpl).mono fun e w' ⟨he,⟨F',D',hG⟩,hO⟩=>⟨he,hstep w' F' (diskI d s.flush) D' hG hO⟩
theorem crash_s (h:Sep W w items) (k:Nat) (hk:items[k]? = some (diskI d s)) (j:Nat) (hjk:j≠k) {t:TypeId} {A:Option Addr} {m c:Nat} (ks:List Bool) (hj:items[j]? = some (rowI t (.slice A m c) m (ks.map Value.bool))) (hm:m≤maxLen) (torn pos:Int) (hpl:s.pend.length<1048576) :
 Calls Tryz.prog 39 #[.pointer (some ⟨d,0,none⟩),.slice A m c,.int .i64 torn,.int .i64 pos] w fun e w'=>e=.returned (.tuple #[])∧Sep W w' (items.set k (diskI d (s.crash (fun i=>ks.getD i false) torn (clampN pos)))):=by
 obtain ⟨G,D,_,hoth,hstep⟩:=h.at_ k hk
 obtain ⟨H,⟨hrow,hH⟩,hdis⟩:=hoth j _ hj hjk
 have hlen:ks.length=m:=by have:=hrow.1; simpa using this
 have hkeep:KeepIs w G A m (fun i=>ks.getD i false):=by
  refine ⟨fun h0=>?_,fun i hi=>by simp [List.getD,List.getElem?_eq_none (show ks.length≤i by omega)]⟩
  rcases hrow.2 with ⟨_,e⟩ | ⟨g,cap,cur,hv,_,hblk,_⟩
  ·omega
  ·have hA:A=some ⟨g,0,none⟩:=by injection hv
   subst hA
   refine ⟨g,0,rfl,hdis g ((hH g).2 rfl),fun i hi=>?_⟩
   have:=hrow.cells (g:=g) rfl i (.bool (ks.getD i false)) (by simp [List.getElem?_eq_getElem (show i<ks.length by omega)])
   rw [Addr.add_mid] at this
   exact this
 exact (crash_any D A m c hm _ torn pos hkeep hpl).mono fun e w' ⟨he,⟨F',D',hG⟩,hO⟩=>⟨he,hstep w' F' (diskI d _) D' hG hO⟩
theorem crash_arg_s (h:Sep W w items) (k:Nat) (hk:items[k]? = some (diskI d s)) (A:Option Addr) (m c:Nat) (hm:m≤maxLen) (keep:Nat→Bool) (torn pos:Int) (hc:CellsIn W A m (fun j=>.bool (keep j))) (hkf:∀ j,m≤j→keep j=false) (hpl:s.pend.length<1048576) :
 Calls Tryz.prog 39 #[.pointer (some ⟨d,0,none⟩),.slice A m c,.int .i64 torn,.int .i64 pos] w fun e w'=>e=.returned (.tuple #[])∧Sep W w' (items.set k (diskI d (s.crash keep torn (clampN pos)))):=by
 obtain ⟨G,D,hN,_,hstep⟩:=h.at_ k hk
 exact (crash_any D A m c hm keep torn pos (keep_old h.below hN hc hkf) hpl).mono fun e w' ⟨he,⟨F',D',hG⟩,hO⟩=>⟨he,hstep w' F' (diskI d _) D' hG hO⟩
theorem Sep.lit (h:Sep W w items) (t:TypeId) (cs:Array Value) (n:Nat) (hs:cs.size=n) (hn:n≤maxLen):Sep W (w.alloc (.cells cs t)) (items++[rowI t (.slice (some ⟨w.heap.size,0,none⟩) n n) n cs.toList]):=by
 refine h.new _ (G:=fun b=>b=w.heap.size) ⟨World.ownsRow_lit w cs n (Nat.zero_le _) hn (by rw [Nat.mul_one]; exact hs),fun b=>?_⟩ (fun b hb=>by omega) ((Below.refl _ _).alloc (Nat.le_refl _) _)
 simp [Value.ownBlock,eq_comm]
end
open Go.RowKit Go.MapKept Go.Lib
set_option linter.unusedVariables false
def leftR (s:St):Int:=if s.set then (if s.left<1 then 0 else s.left) else -1
def rL (s:St):List Value:=(List.range s.size.toNat).map fun (i:Nat)=>Value.string (s.held (i:Int))
def rW (l:List (Int × ByteArray)):List Value:=l.map fun p=>Value.int .i64 p.1
def rT (l:List (Int × ByteArray)):List Value:=l.map fun p=>Value.string p.2
structure RefIn (w:World) (r:Nat) (vL vW vT:Value) (F:Nat→Prop) (s:St):Prop where
 fr:F r
 fL:∀ g,vL.ownBlock=some g→F g
 fW:∀ g,vW.ownBlock=some g→F g
 fT:∀ g,vT.ownBlock=some g→F g
 LT:∀ g,vL.ownBlock=some g→vT.ownBlock≠some g
 blk:Blk w r 131 #[vL,vW,vT,.int .i64 (leftR s)]
 rowL:w.ownsRow 0 9 1 vL s.size.toNat (rL s)
 rowW:w.ownsRow 0 3 1 vW s.pend.length (rW s.pend)
 rowT:w.ownsRow 0 9 1 vT s.pend.length (rT s.pend)
 lt:∀ b,F b→b<w.heap.size
 good:s.Good
def RefAt (w:World) (r:Nat) (F:Nat→Prop) (s:St):Prop:=∃ vL vW vT,RefIn w r vL vW vT F s
section
variable {w w' : World} {r:Nat} {vL vW vT:Value} {F:Nat→Prop} {s:St}
theorem RefIn.same (D:RefIn w r vL vW vT F s) (hs:∀ i,F i→w'.heap[i]? = w.heap[i]?) (hz:w.heap.size≤w'.heap.size):RefIn w' r vL vW vT F s :=
 ⟨D.fr,D.fL,D.fW,D.fT,D.LT,(hs r D.fr).trans D.blk,own_same D.rowL (fun g hg=>hs g (D.fL g hg)),own_same D.rowW (fun g hg=>hs g (D.fW g hg)),own_same D.rowT (fun g hg=>hs g (D.fT g hg)),
  fun b hb=>Nat.lt_of_lt_of_le (D.lt b hb) hz,D.good⟩
theorem RefIn.later (D:RefIn w r vL vW vT F s) (hb:Below w.heap.size w w'):RefIn w' r vL vW vT F s:=D.same (fun i hi=>hb.block i (D.lt i hi)) hb.size
theorem RefAt.later (D:RefAt w r F s) (hb:Below w.heap.size w w'):RefAt w' r F s:=let ⟨a,b,c,D⟩:=D; ⟨a,b,c,D.later hb⟩
theorem RefAt.good (D:RefAt w r F s):s.Good:=let ⟨_,_,_,D⟩:=D; D.good
theorem RefAt.lt (D:RefAt w r F s):∀ b,F b→b<w.heap.size:=let ⟨_,_,_,D⟩:=D; D.lt
theorem RefIn.x1 (D:RefIn w r vL vW vT F s):w.cell? ⟨r,1,none⟩=some vW:=D.blk.cell 1
theorem RefIn.rl (D:RefIn w r vL vW vT F s):vL.ownBlock≠some r:=own_ne D.rowL D.blk (by decide)
theorem RefIn.rw (D:RefIn w r vL vW vT F s):vW.ownBlock≠some r:=own_ne D.rowW D.blk (by decide)
theorem RefIn.rt (D:RefIn w r vL vW vT F s):vT.ownBlock≠some r:=own_ne D.rowT D.blk (by decide)
theorem RefIn.turn {s' : St} (D:RefIn w r vL vW vT F s) (ho:Only (fun i=>i=r) w w') (hb:Blk w' r 131 #[vL,vW,vT,.int .i64 (leftR s')]) (h1:s'.held=s.held) (h2:s'.pend=s.pend) (h3:s'.size=s.size) (hg:s'.Good):RefIn w' r vL vW vT F s':=by
 have hs:∀ i,i<w.heap.size→i≠r→w'.heap[i]? = w.heap[i]?:=fun i hi hne=>ho.block i hi hne
 have eL:rL s' = rL s:=by unfold rL; rw [h1,h3]
 refine ⟨D.fr,D.fL,D.fW,D.fT,D.LT,hb,?_,?_,?_,fun b hb=>Nat.lt_of_lt_of_le (D.lt b hb) ho.size,hg⟩
 ·rw [eL,h3]; exact own_same D.rowL (fun g hg=>hs g (D.rowL.lt g hg).2 (fun e=>D.rl (by rw [hg,e])))
 ·rw [h2]; exact own_same D.rowW (fun g hg=>hs g (D.rowW.lt g hg).2 (fun e=>D.rw (by rw [hg,e])))
 ·rw [h2]; exact own_same D.rowT (fun g hg=>hs g (D.rowT.lt g hg).2 (fun e=>D.rt (by rw [hg,e])))
end
theorem own_ne2 {w:World} {v u:Value} {e t:TypeId} {b1 b2 s1 s2 n m:Nat} {xs ys:List Value} (ho:w.ownsRow b1 e s1 v n xs) (hu:w.ownsRow b2 t s2 u m ys) (hne:e≠t):∀ g,v.ownBlock=some g→u.ownBlock≠some g:=by
 intro g hg
 rcases hu.2 with ⟨rfl,_⟩ | ⟨g',cap,cur,rfl,_,hh,_⟩
 ·simp [Value.ownBlock]
 ·intro he
  have:g' = g:=by simpa [Value.ownBlock] using he
  subst this
  exact own_ne ho (t:=t) hh hne hg
open Go.RowKit Go.MapKept Go.Lib
set_option linter.unusedVariables false
open Go.RowKit Go.MapKept Go.Lib
set_option linter.unusedVariables false
theorem own_set {w:World} {base:Nat} {e:TypeId} {n k g c:Nat} {xs:List Value} (u:Value) (ho:w.ownsRow base e 1 (.slice (some ⟨g,0,none⟩) n c) n xs) (hk:k<n) :
 (w.setCell ⟨g,k,none⟩ u).ownsRow base e 1 (.slice (some ⟨g,0,none⟩) n c) n (xs.set k u):=by
 have h1:=ho.1
 rcases ho.2 with ⟨h,_⟩ | ⟨g',cap,cur,h,hb,hh,a1,a2,a3,a4⟩
 ·cases h
 ·injection h with e1 e2 e3
  injection e1 with e1
  injection e1 with e1
  subst e1 e3
  refine ⟨by simpa using h1,.inr ⟨g,c,cur.setIfInBounds k u,rfl,hb,Blk.set_ (t:=e) hh k u,a1,a2,by simpa using a3,?_⟩⟩
  rw [← a4]
  simp [List.take_set]
section
variable {w w' : World} {r gL cL:Nat} {vW vT:Value} {F:Nat→Prop} {s:St}
theorem rL_set {i:Int} (hi:s.has i) (y:ByteArray):(rL s).set i.toNat (.string y)=rL (s.did fun j=>if j=i then y else s.held j):=by
 have h1:=hi.1
 have h2:=hi.2
 apply List.ext_getElem?
 intro k
 rw [List.getElem?_set]
 simp only [rL,St.did,List.length_map,List.length_range,List.getElem?_map]
 by_cases hk:k<s.size.toNat
 ·rw [List.getElem?_range hk]
  by_cases e:i.toNat=k
  ·rw [if_pos e,if_pos (by omega)]
   simp only [Option.map_some]
   rw [if_pos (by omega)]
  ·rw [if_neg e]
   simp only [Option.map_some]
   rw [if_neg (by omega)]
 ·rw [if_neg (by omega)]
  rw [List.getElem?_eq_none (by simp; omega)]
  rfl
theorem RefIn.put (D:RefIn w r (.slice (some ⟨gL,0,none⟩) s.size.toNat cL) vW vT F s) (i:Int) (hi:s.has i) (y:ByteArray) (hy:y.size=128) :
 RefIn (w.setCell ⟨gL,i.toNat,none⟩ (.string y)) r (.slice (some ⟨gL,0,none⟩) s.size.toNat cL) vW vT F (s.did fun j=>if j=i then y else s.held j)
  ∧ Only F w (w.setCell ⟨gL,i.toNat,none⟩ (.string y)):=by
 have h1:=hi.1
 have h2:=hi.2
 have fg:=D.fL gL rfl
 have hs:∀ b,b≠gL→(w.setCell ⟨gL,i.toNat,none⟩ (.string y)).heap[b]? = w.heap[b]?:=fun b hb=>Below.heap_setCell _ _ _ _ hb
 have ne_r:gL≠r:=fun e=>D.rl (by rw [e]; rfl)
 have ne_T:∀ g,vT.ownBlock=some g→g≠gL:=fun g hg e=>D.LT gL rfl (by rw [hg,e])
 have ne_W:∀ g,vW.ownBlock=some g→g≠gL:=fun g hg e=>own_ne2 D.rowW D.rowL (by decide) g hg (by rw [e]; rfl)
 refine ⟨⟨D.fr,D.fL,D.fW,D.fT,D.LT,(hs r (Ne.symm ne_r)).trans D.blk,?_,own_same D.rowW (fun g hg=>hs g (ne_W g hg)),own_same D.rowT (fun g hg=>hs g (ne_T g hg)),fun b hb=>by have:=D.lt b hb; simpa [World.setCell] using this,D.good.did (fun j=>by split; exact hy; exact D.good.held j)⟩,
  (Only.refl F w).setCell (p:=⟨gL,i.toNat,none⟩) (.inl fg) _⟩
 rw [← rL_set hi y]
 exact own_set (.string y) D.rowL (by omega)
theorem RefIn.drew {vL:Value} (D:RefIn w r vL vW vT F s):RefIn w.drew r vL vW vT F s:=D.same (fun _ _=>rfl) (Nat.le_refl _)
theorem RefIn.drop {vL:Value} {q:Int} {s' : St} (D:RefIn w r vL vW vT F s) (hb:Blk w' r 131 #[vL,.slice none 0 0,.slice none 0 0,.int .i64 (leftR s')]) (ho:Only (fun i=>i=r) w w') (h1:s'.held=s.held) (h2:s'.pend=[]) (h3:s'.size=s.size) (hg:s'.Good) :
 RefIn w' r vL (.slice none 0 0) (.slice none 0 0) F s':=by
 have eL:rL s' = rL s:=by unfold rL; rw [h1,h3]
 have nil:∀ e,w'.ownsRow 0 e 1 (.slice none 0 0) 0 []:=fun e=>⟨rfl,.inl ⟨rfl,rfl⟩⟩
 refine ⟨D.fr,D.fL,fun g hg=>by simp [Value.ownBlock] at hg,fun g hg=>by simp [Value.ownBlock] at hg,fun g hg hh=>by simp [Value.ownBlock] at hh,hb,?_,by rw [h2]; exact nil _,by rw [h2]; exact nil _,fun b hb=>Nat.lt_of_lt_of_le (D.lt b hb) ho.size,hg⟩
 rw [eL,h3]
 exact own_same D.rowL (fun g hg=>ho.block g (D.rowL.lt g hg).2 (fun e=>D.rl (by rw [hg,e])))
end
open Go.RowKit Go.MapKept Go.Lib
set_option linter.unusedVariables false
open Go.RowKit Go.MapKept Go.Lib
set_option linter.unusedVariables false
section
variable {W w:World} {items:List Item} {k r:Nat} {s:St}
end
open Go.RowKit Go.MapKept Go.Lib
set_option linter.unusedVariables false
end Go.Proofs.YtcnohlgigmmefaaGreat.Dk
