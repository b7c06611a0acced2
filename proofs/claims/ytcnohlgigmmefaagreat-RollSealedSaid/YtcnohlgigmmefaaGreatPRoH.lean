/- A part. -/
import Derived.Test.YtcnohlgigmmefaaGreatPRoG
import Derived.Test.YtcnohlgigmmefaaGreatPLgB
namespace Go.Proofs.YtcnohlgigmmefaaGreat.Ro
open Go.RowKit Go.Lib Wd
open Tb (Tab okP lastN nth)
open Dk (St)
set_option linter.unusedVariables false
section
variable {sg st ep:Int} {h:Held} {c:Cp.Chk} {f:List Fd} {L:List (Int × Rc.Rec)} {m m0:Img} {nf:Nat}
def recsL (L:List (Int × Rc.Rec)):List Rc.Rec:=(L.map (·.2)).filter fun r=>decide (r.k≠3)
theorem recsL_app (L1 L2:List (Int × Rc.Rec)):recsL (L1++L2)=recsL L1++recsL L2:=by simp [recsL]
theorem Wr.foundP (W:Wr ep m0 L m):∃ l,m.f=m0.f++l∧l.map (·.2)=recsL L:=by
 induction W with
 | nil=>exact ⟨[],by simp,rfl⟩
 | @snoc L m r W hr ih =>
   obtain ⟨l,h1,h2⟩:=ih
   unfold putI
   by_cases h3:r.k=3
   ·rw [if_pos h3]
    exact ⟨l,h1,by rw [recsL_app,← h2]; simp [recsL,h3]⟩
   ·rw [if_neg h3]
    exact ⟨l++[((lastN m.t.o,lastN m.t.l),r)],by simp only; rw [h1,List.append_assoc],by rw [recsL_app,← h2]; simp [recsL,h3]⟩
theorem Wr.vers (W:Wr ep m0 L m):m.v=(recsL L).foldl (fun a r=>max a r.v) m0.v:=by
 induction W with
 | nil=>rfl
 | @snoc L m r W hr ih =>
   rw [recsL_app,List.foldl_append,← ih]
   unfold putI
   by_cases h3:r.k=3
   ·rw [if_pos h3]
    simp [recsL,h3]
   ·rw [if_neg h3]
    simp [recsL,h3]
theorem reads_len {o l:List Int}:∀ {n:Nat} {g:List Fd},readsT h st o l n=some g→(∀ i,i<n→0≤nth l i)→n≤l.length→(g.length:Int)=Tb.sumTo l n
 | 0,g,hg,_,_=>by injection hg with hg; subst hg; simp [Tb.sumTo_zero]
 | n+1,g,hg,h0,hn=>by
   unfold readsT at hg
   split at hg
   ·cases hg
   ·rename_i a ha
    split at hg
    ·cases hg
    ·rename_i b hb
     injection hg with hg
     subst hg
     have h1:=reads_len ha (fun i hi=>h0 i (by omega)) (by omega)
     have h2:=(segF_some hb).1
     have h3:=h0 n (by omega)
     rw [List.length_append,Tb.sumTo_succ (by omega),← h1]
     omega
theorem faith_used (hok:okP m.t) (hF:Faith h m):(m.f.length:Int)=Tb.usedT m.t:=by
 have h7:=hok.2.2.2.2.2.2.1
 have:=reads_len hF (fun i hi=>(hok.2.2.2.2.2.1 _ (Tb.nth_mem (by omega))).1) (by omega)
 unfold Tb.usedT
 rw [h7]
 exact this
theorem recs_prefix {L1 L2:List (Int × Rc.Rec)} {R:List Rc.Rec} (e:L=L1++L2) (hR:recsL L=R):recsL L1=R.take (recsL L1).length∧(recsL L1).length≤R.length:=by
 subst e
 rw [recsL_app] at hR
 subst hR
 exact ⟨by simp,by simp⟩
theorem recs_ge {L1 L2:List (Int × Rc.Rec)} (e:L=L1++L2) (hn:nf≤L1.length):(recsL (L.take nf)).length≤(recsL L1).length:=by
 have e2:L1=L.take nf++(L1.drop nf):=by
  have:L.take nf=L1.take nf:=by rw [e,List.take_append_of_le_length hn]
  rw [this,List.take_append_drop]
 rw [e2,recsL_app,List.length_append]
 omega
theorem vers_up:∀ (l:List Rc.Rec) (k:Int),(∀ i (hi:i<l.length),(l[i]).v=k+i+1)→l.foldl (fun a r=>max a r.v) k=k+l.length
 | [],k,_=>by simp
 | r :: l,k,hl=>by
   have h0:=hl 0 (by simp)
   rw [List.foldl_cons]
   have e:max k r.v=k+1:=by
    have:r.v=k+1:=by simpa using h0
    omega
   rw [e,vers_up l (k+1) fun i hi=>by
    have:=hl (i+1) (by simpa using hi)
    rw [List.getElem_cons_succ] at this
    rw [this]
    omega]
   simp
   omega
end
end Go.Proofs.YtcnohlgigmmefaaGreat.Ro
namespace Go.Proofs.YtcnohlgigmmefaaGreat.Ro
open Go.RowKit Go.Lib
open Tb (Tab TIn Sl okP csT lastN nth Fresh)
open Dk (St Only Grew)
set_option linter.unusedVariables false
set_option maxRecDepth 100000
theorem has_num {s:St} {sg st seg slot:Int} (hsg:4≤sg∧sg≤16) (hst:1≤st∧st≤30) (hf:2+sg*(st+1)≤s.size) (h1:0≤seg∧seg<sg) (h2:0≤slot∧slot≤st):s.has (Tb.sectorT st seg slot):=by
 unfold Tb.sectorT
 rw [if_pos ⟨hst.1,hst.2,h1.1,by omega,h2.1,h2.2⟩]
 have e1:seg*(st+1)≤(sg-1)*(st+1):=Int.mul_le_mul_of_nonneg_right (by omega) (by omega)
 have e2:(sg-1)*(st+1)=sg*(st+1)-(st+1):=by rw [Int.sub_mul,Int.one_mul]
 have e3:0≤seg*(st+1):=Int.mul_nonneg h1.1 (by omega)
 exact ⟨by omega,by omega⟩
theorem reads_bound {h:Held} {st:Int} {o l:List Int}:∀ {n:Nat} {f:List Fd},readsT h st o l n=some f→(∀ i,i<n→nth l i≤30)→f.length≤30*n
 | 0,f,hf,_=>by injection hf with hf; subst hf; simp
 | n+1,f,hf,h0=>by
   unfold readsT at hf
   split at hf
   ·cases hf
   ·rename_i a ha
    split at hf
    ·cases hf
    ·rename_i b hb
     injection hf with hf
     subst hf
     have h1:=reads_bound ha fun i hi=>h0 i (by omega)
     have h2:=(segF_some hb).1
     have h3:=h0 n (by omega)
     rw [List.length_append]
     omega
theorem seg_next {h:Held} {st seg:Int} {j:Nat} {a:List Fd} {rc:Rc.Rec} (h1:segF h st seg j=some a) (h2:recAt h st seg j=some rc) (h3:rc.k≠3):segF h st seg (j+1)=some (a++[((seg,(j:Int)),rc)]):=by
 unfold segF
 rw [h1,h2]
 simp only
 rw [if_neg h3]
theorem first_next {h:Held} {st seg ls first:Int} {j:Nat} {rc:Rc.Rec} (h1:firstT h st seg j ls=first) (h2:recAt h st seg j=some rc):firstT h st seg ((j+1:Nat):Int) ls=if j=0 then rc.l else first:=by
 by_cases e:j=0
 ·subst e
  have h2:recAt h st seg 0=some rc:=h2
  unfold firstT
  rw [if_neg (by omega),if_pos rfl,h2]
 ·rw [if_neg e,← h1]
  unfold firstT
  rw [if_neg (by omega),if_neg (by omega)]
theorem firsts_next (h:Held) (st:Int) (c:Cp.Chk) (i:Nat):firstsT h st c (i+1)=firstsT h st c i++[firstT h st (nth c.o i) (nth c.n i) c.l]:=by
 unfold firstsT
 rw [List.range_succ,List.map_append]
 rfl
theorem best_ok {a b:List UInt8} (h:Cp.bestE a b=0):Cp.okC (Cp.bestC a b)=true∧Cp.Fits (Cp.bestC a b):=by
 have yes:∀ l:List UInt8,Cp.isSec l=true→Cp.okC (Cp.decC l)=true∧Cp.Fits (Cp.decC l)∧0<(Cp.decC l).g:=fun l hl=>by
  unfold Cp.decC
  rw [if_pos hl]
  have h1:=((Cp.isSec_iff l).1 hl).1
  have h2:=Cp.cutC_fits l
  have h3:=((Cp.okC_iff _).1 h1).1.1
  have h4:=h2.g0
  exact ⟨h1,h2,by omega⟩
 have no:∀ l:List UInt8,Cp.isSec l=false→(Cp.decC l).g=0:=fun l hl=>by
  unfold Cp.decC
  rw [if_neg (by rw [hl]; decide)]
  rfl
 have ge:∀ l:List UInt8,0≤(Cp.decC l).g:=fun l=>by
  cases hl:Cp.isSec l with
  | true=>have:=(yes l hl).2.2; omega
  | false=>have:=no l hl; omega
 unfold Cp.bestE at h
 have hn:¬ (Cp.isSec a=false∧Cp.isSec b=false):=fun e=>by rw [if_pos e] at h; exact absurd h (by decide)
 unfold Cp.bestC
 split
 ·rename_i hg
  cases hb:Cp.isSec b with
  | true=>exact ⟨(yes b hb).1,(yes b hb).2.1⟩
  | false=>have:=no b hb; have:=ge a; omega
 ·rename_i hg
  cases ha:Cp.isSec a with
  | true=>exact ⟨(yes a ha).1,(yes a ha).2.1⟩
  | false =>
    cases hb:Cp.isSec b with
    | true=>have:=no a ha; have:=(yes b hb).2.2; omega
    | false=>exact absurd ⟨ha,hb⟩ hn
theorem best_err (a b:List UInt8):Cp.bestE a b=0∨Cp.bestE a b=5:=by
 unfold Cp.bestE
 split
 ·exact .inr rfl
 ·exact .inl rfl
theorem ok_in {sg st:Int} {c:Cp.Chk} {f:List Int} (hsg:4≤sg∧sg≤16) (hst:1≤st∧st≤30) (ho:Cp.okC c=true) (hf:f.length=c.o.length):okP ⟨sg,st,c.o,c.n,f⟩↔inT sg st c c.o.length:=by
 constructor
 ·rintro ⟨_,_,_,h4,_,h6,h7,_⟩ j hj
  have h7' : c.n.length=c.o.length:=h7
  exact ⟨(h4 _ (Tb.nth_mem hj)).2,(h6 _ (Tb.nth_mem (l:=c.n) (by omega))).2⟩
 ·intro hi
  have:=base_ok (h:=fun _=>ByteArray.empty) (f:=[]) hsg hst ho hi
  exact ⟨this.1,this.2.1,this.2.2.1,this.2.2.2.1,this.2.2.2.2.1,this.2.2.2.2.2.1,this.2.2.2.2.2.2.1,hf⟩
end Go.Proofs.YtcnohlgigmmefaaGreat.Ro
namespace Go.Proofs.YtcnohlgigmmefaaGreat.Lg
open Go.RowKit Go.Lib
open Dk (St Only Grew)
set_option linter.unusedVariables false
set_option maxRecDepth 100000
section
variable {W w w' w1:World} {items items' : List Dk.Item} {k:Nat} {it:Dk.Item}
theorem sep_swap (h:Dk.Sep W w items) (hk:items[k]? = some it) (it' : Dk.Item) {G:Nat→Prop} (hG:it'.holds w' G) (hn:∀ b,G b→w.heap.size≤b) (hb:Below w.heap.size w w'):Dk.Sep W w' (items.set k it'):=by
 obtain ⟨G0,_,_,_,put⟩:=h.at_ k hk
 exact put w' G it' hG (fun b hb'=>.inr (hn b hb')) ((Only.refl _ w).of_below hb)
theorem sep_join (h:Dk.Sep W w items) (h' : Dk.Sep w w' items'):Dk.Sep W w' (items++items'):=by
 obtain ⟨hb,Gs,hl,hh,hd,hN⟩:=h'
 have h1:=h.later hb
 obtain ⟨hW,Hs,kl,kh,kd,kN⟩:=h1
 obtain ⟨hW0,Hs0,kl0,kh0,kd0,kN0⟩:=h
 have hlt:∀ (i:Nat) (H:Nat→Prop),Hs0[i]? = some H→∀ b,H b→b<w.heap.size:=fun i H hi b hb=>by
  have hil:i<items.length:=by rw [← kl0]; exact (List.getElem?_eq_some_iff.1 hi).1
  exact (items[i]).lt (kh0 i _ H (List.getElem?_eq_getElem hil) hi) b hb
 have hcase:∀ (i:Nat) (H:Nat→Prop),(Hs0++Gs)[i]? = some H→(i<Hs0.length∧Hs0[i]? = some H)∨(Hs0.length≤i∧Gs[i-Hs0.length]? = some H):=fun i H hi=>by
  rcases Nat.lt_or_ge i Hs0.length with h1|h1
  ·rw [List.getElem?_append_left h1] at hi
   exact .inl ⟨h1,hi⟩
  ·rw [List.getElem?_append_right h1] at hi
   exact .inr ⟨h1,hi⟩
 refine ⟨hW,Hs0++Gs,by simp [hl,kl0],fun i it2 H hi hH=>?_,fun i j H H' hij hi hj b hbb hb'=>?_,fun i H hi b hbb=>?_⟩
 ·rcases hcase i H hH with ⟨h1,h2⟩ | ⟨h1,h2⟩
  ·rw [List.getElem?_append_left (by omega)] at hi
   have h3:=kh0 i it2 H hi h2
   exact it2.stable h3 (fun b hb'=>hb.block b (it2.lt h3 b hb')) hb.size
  ·rw [List.getElem?_append_right (by omega)] at hi
   exact hh _ it2 H (by rw [kl0]; exact hi) h2
 ·rcases hcase i H hi with ⟨h1,h2⟩ | ⟨h1,h2⟩ <;> rcases hcase j H' hj with ⟨h3,h4⟩ | ⟨h3,h4⟩
  ·exact kd0 i j H H' hij h2 h4 b hbb hb'
  ·have:=hlt i H h2 b hbb; have:=hN _ H' h4 b hb'; omega
  ·have:=hlt j H' h4 b hb'; have:=hN _ H h2 b hbb; omega
  ·exact hd _ _ H H' (by omega) h2 h4 b hbb hb'
 ·rcases hcase i H hi with ⟨h1,h2⟩ | ⟨h1,h2⟩
  ·exact kN0 i H h2 b hbb
  ·exact Nat.le_trans hW0.size (hN _ H h2 b hbb)
theorem sep_tail {a:Dk.Item} (h:Dk.Sep W w (a :: items)):Dk.Sep W w items:=by
 obtain ⟨hW,Gs,hl,hh,hd,hN⟩:=h
 cases Gs with
 | nil=>simp at hl
 | cons G Gs =>
   exact ⟨hW,Gs,by simpa using hl,fun i it G hi hG=>hh (i+1) it G (by simpa using hi) (by simpa using hG),fun i j G H hij hi hj=>hd (i+1) (j+1) G H (by omega) (by simpa using hi) (by simpa using hj),fun i G hi=>hN (i+1) G (by simpa using hi)⟩
theorem loc_cell {b:Nat} {t:TypeId} {cs:Array Value} (h:Dk.Sep W w items) (hk:items[k]? = some (locI [(b,t,cs)])) (i:Nat) (u:Value):Dk.Sep W (w.setCell ⟨b,i,none⟩ u) (items.set k (locI [(b,t,cs.setIfInBounds i u)])):=by
 have hB:=loc_at h hk _ (List.mem_cons_self ..)
 rw [set_row hB]
 refine loc_row h hk b ⟨_,List.mem_cons_self ..,rfl⟩ _ ?_ ?_
 ·intro x hx
  rcases List.mem_cons.1 hx with rfl|hx
  ·exact hB.row _
  ·cases hx
 ·intro x hx
  rcases List.mem_cons.1 hx with rfl|hx
  ·exact ⟨_,List.mem_cons_self ..,rfl⟩
  ·cases hx
theorem loc_whole {b:Nat} {t:TypeId} {cs:Array Value} (h:Dk.Sep W w items) (hk:items[k]? = some (locI [(b,t,cs)])) (us:Array Value):Dk.Sep W (w.setRow b us) (items.set k (locI [(b,t,us)])):=by
 have hB:=loc_at h hk _ (List.mem_cons_self ..)
 refine loc_row h hk b ⟨_,List.mem_cons_self ..,rfl⟩ _ ?_ ?_
 ·intro x hx
  rcases List.mem_cons.1 hx with rfl|hx
  ·exact hB.row _
  ·cases hx
 ·intro x hx
  rcases List.mem_cons.1 hx with rfl|hx
  ·exact ⟨_,List.mem_cons_self ..,rfl⟩
  ·cases hx
theorem loc_alloc (h:Dk.Sep W w items) (t:TypeId) (cs:Array Value):Dk.Sep W (w.alloc (.cells cs t)) (items++[locI [(w.heap.size,t,cs)]]):=by
 refine loc_new h ((Below.refl _ _).alloc (Nat.le_refl _) _) ?_ ?_
 ·intro x hx
  rcases List.mem_cons.1 hx with rfl|hx
  ·exact Tb.Blk.new w t cs
  ·cases hx
 ·intro x hx
  rcases List.mem_cons.1 hx with rfl|hx
  ·exact Nat.le_refl _
  ·cases hx
theorem loc_blk {b:Nat} {t:TypeId} {cs:Array Value} (h:Dk.Sep W w items) (hk:items[k]? = some (locI [(b,t,cs)])):Tb.Blk w b t cs:=loc_at h hk _ (List.mem_cons_self ..)
end
theorem flat_get {α:Type} (f:α→List Value) (c:Nat) (hf:∀ x,(f x).length=c):∀ (L:List α) (j:Nat) (x:α) (k:Nat),L[j]? = some x→k<c→(L.flatMap f)[j*c+k]? = (f x)[k]?
 | [],j,x,k,h,_=>by simp at h
 | y :: L,0,x,k,h,hk=>by
   have e:y=x:=by simpa using h
   subst e
   rw [List.flatMap_cons,Nat.zero_mul,Nat.zero_add,List.getElem?_append_left (by rw [hf]; exact hk)]
 | y :: L,j+1,x,k,h,hk=>by
   have h' : L[j]? = some x:=by simpa using h
   rw [List.flatMap_cons,List.getElem?_append_right (by rw [hf,Nat.add_mul]; omega),hf,show (j+1)*c+k-c=j*c+k by rw [Nat.add_mul]; omega]
   exact flat_get f c hf L j x k h' hk
def rowS (e:TypeId) (sz:Nat) (v:Value) (n:Nat) (xs:List Value):Dk.Item:=⟨fun w G=>w.ownsRow 0 e sz v n xs∧∀ b,G b↔v.ownBlock=some b,fun ⟨h,hG⟩ hs hz=>⟨Dk.own_same h (fun g hg=>hs g ((hG g).2 hg)),hG⟩,fun ⟨h,hG⟩ b hb=>(h.lt b ((hG b).1 hb)).2⟩
section
variable {W w:World} {items:List Dk.Item}
theorem rows_nil (h:Dk.Sep W w items) (t:TypeId) (sz:Nat):Dk.Sep W w (items++[rowS t sz (.slice none 0 0) 0 []]):=by
 refine h.new _ (G:=fun _=>False) ⟨⟨by simp,.inl ⟨rfl,rfl⟩⟩,fun b=>?_⟩ (fun b hb=>hb.elim) (Below.refl _ _)
 simp [Value.ownBlock]
theorem rows_slice (h:Dk.Sep W w items) {k:Nat} {t:TypeId} {sz:Nat} {v:Value} {n:Nat} {xs:List Value} (hk:items[k]? = some (rowS t sz v n xs)):∃ A p,v=.slice A n p:=by
 obtain ⟨G,⟨hrow,_⟩,_⟩:=h.at_ k hk
 rcases hrow.2 with ⟨rfl,rfl⟩ | ⟨g,cap,cur,rfl,_⟩
 ·exact ⟨_,_,rfl⟩
 ·exact ⟨_,_,rfl⟩
theorem rows_cell (h:Dk.Sep W w items) {k:Nat} {t:TypeId} {sz:Nat} {A:Option Addr} {p n:Nat} {xs:List Value} (hk:items[k]? = some (rowS t sz (.slice A n p) n xs)) (hn:0<n):∃ g,A=some ⟨g,0,none⟩∧∀ j,j<n*sz→w.cell? ⟨g,j,none⟩=xs[j]?:=by
 obtain ⟨G,⟨hrow,_⟩,_⟩:=h.at_ k hk
 rcases hrow.2 with ⟨_,rfl⟩ | ⟨g,cap,cur,e,_,hg,_,_,_,hx⟩
 ·omega
 ·injection e with e1 e2 e3
  refine ⟨g,e1,fun j hj=>?_⟩
  rw [← hx,List.getElem?_take_of_lt hj,cell_of_row w g j cur t (0,0) hg]
  simp
theorem wp_append_s {ops:Array Oper} {rest:List Oper} {o:Oper} {a:Act} {w0:World} {Q:Exit→Act→World→Prop} {n:Nat} {v:Value} {xs cs:List Value} {e t:TypeId} {sz bytes:Nat} {z:Value} (hinfo:(Tryz.prog.info? e).map (fun i=>(i.zero,i.size,i.bytes))=some (some z,sz,bytes)) (hzs:z.cells.size=sz) (hsz:0<sz) (hby:bytes≤1000)
 (ht:Tryz.prog.underlying t=some (.slice e)) (hgd:o.guard=none) (sx xx:Operand)
 (ho:o.op=.call { callee:=.builtin .append,args:=#[sx,xx],argTypes:=#[t,t] }) (hs:a.eval sx=v) (hx:a.eval xx=.slice (some ⟨w0.heap.size,0,none⟩) 1 1) (h0:Dk.Sep W w0 items) (k:Nat) (hk:items[k]? = some (rowS e sz v n xs)) (hn:n<1000) (hl:cs.length=sz) (h1c:∀ u∈cs,u.oneCell' = true)
 (h:∀ v' w',Dk.Sep W w' (items.set k (rowS e sz v' (n+1) (xs++cs)))→wpList Tryz.prog ops Q rest (a.put o.dst v') w'):wpList Tryz.prog ops Q (o :: rest) a (w0.alloc (.cells cs.toArray e)):=by
 obtain ⟨i0,hi0,hz0,hz1,hz2⟩:=info_parts hinfo
 have h1:=h0.alloc (.cells cs.toArray e)
 obtain ⟨G,⟨hrow,hG⟩,_,_,hstep⟩:=h1.at_ k hk
 have hb:(n+1)*bytes≤140737488355328:=Nat.le_trans (Nat.mul_le_mul (show n+1≤1000 by omega) hby) (by decide)
 refine wpList_append_own_at _ hgd sx xx _ ho 0 e i0 _ sz bytes ht hi0 hz0 hz1 hz2 hzs hsz v n xs hs hrow ⟨w0.heap.size,0,none⟩ 1 1 cs hx (by omega) (fun j u hj=>?_) h1c
  (by unfold maxLen; omega) hb (Nat.zero_le _) ?_
 ·have:=(Tb.Blk.new w0 e cs.toArray).cell j
  rw [show (⟨w0.heap.size,0,none⟩:Addr).add j=⟨w0.heap.size,j,none⟩ by unfold Addr.add; by_cases h:j=0 <;> simp [h],this]
  simpa using hj
 intro v' w' hown hg _ hat
 refine h v' w' (hstep w' (fun b=>v'.ownBlock=some b) _ ⟨hown,fun b=>Iff.rfl⟩ (fun b hb=>?_) ((Only.refl _ _).grown hg (fun q hq=>.inl ((hG q).2 hq))))
 rcases hat with e|e
 ·left; exact (hG b).2 (e ▸ hb)
 ·right; rw [e] at hb; injection hb with hb; omega
end
end Go.Proofs.YtcnohlgigmmefaaGreat.Lg
