/- A part. -/
import Derived.Test.YtcnohlgigmmefaaGreatPMem
import Derived.WalkKit
import Derived.MapKept
import Derived.Maps.Own
import Derived.Maps.OwnOps
import Derived.Maps.AppendAt
import Derived.Deep.MidRow
import Derived.Laws.CopyOwn
import Derived.Lib.Hide
import Derived.Deep.WholeRow
import Derived.Laws.BytesArg
import Derived.StillTailTactics
import Derived.Deep.RegionLaw
import Derived.Lib.BufferWrite
import Derived.RegionTactic
import Derived.Deep.LoopGhost
import Derived.Deep.Cut
namespace Go.Proofs.YtcnohlgigmmefaaGreat.Dk
open Go.RowKit Go.Lib
set_option linter.unusedVariables false
set_option maxRecDepth 100000
open Go.RowKit Go.MapKept
set_option linter.unusedVariables false
structure Only (F:Nat→Prop) (w w' : World):Prop where
 os:w'.os=w.os
 tape:w'.tape=w.tape
 output:w'.output=w.output
 size:w.heap.size≤w'.heap.size
 block:∀ k,k<w.heap.size→¬ F k→w'.heap[k]? = w.heap[k]?
theorem Only.refl (F:Nat→Prop) (w:World):Only F w w:=⟨rfl,rfl,rfl,Nat.le_refl _,fun _ _ _=>rfl⟩
theorem Only.trans {F G:Nat→Prop} {a b c:World} (h:Only F a b) (k:Only G b c) (hG:∀ i,G i→F i∨a.heap.size≤i):Only F a c :=
 ⟨k.os.trans h.os,k.tape.trans h.tape,k.output.trans h.output,Nat.le_trans h.size k.size,fun i hi hF =>
  (k.block i (Nat.lt_of_lt_of_le hi h.size) (fun hg=>by rcases hG i hg with h1|h1; exact hF h1; omega)).trans (h.block i hi hF)⟩
theorem Only.drew {F:Nat→Prop} {a b:World} (h:Only F a b):Only F a b.drew:=⟨h.os,h.tape,h.output,h.size,h.block⟩
theorem Only.alloc {F:Nat→Prop} {a b:World} (h:Only F a b) (o:Obj):Only F a (b.alloc o) :=
 h.trans (G:=fun _=>False) ⟨rfl,rfl,rfl,by simp,fun k hk _=>Below.heap_alloc _ _ _ hk⟩ (fun _ h=>h.elim)
theorem Only.setCell {F:Nat→Prop} {a b:World} (h:Only F a b) {p:Addr} (hp:F p.block∨a.heap.size≤p.block) (u:Value):Only F a (b.setCell p u) :=
 h.trans (G:=fun i=>i=p.block) ⟨rfl,rfl,rfl,by simp [World.setCell],fun k hk hn=>Below.heap_setCell _ _ _ _ hn⟩ (fun i hi=>by subst hi; exact hp)
theorem Only.setRow {F:Nat→Prop} {a b:World} (h:Only F a b) {g:Nat} (hp:F g∨a.heap.size≤g) (cs:Array Value):Only F a (b.setRow g cs) :=
 h.trans (G:=fun i=>i=g) ⟨rfl,rfl,rfl,by simp,fun k hk hn=>setRow_other _ _ _ _ hn⟩ (fun i hi=>by subst hi; exact hp)
theorem Only.grown {F:Nat→Prop} {a b c:World} {row:Option Nat} (h:Only F a b) (hg:b.grownBy c row) (hr:∀ k,row=some k→F k∨a.heap.size≤k):Only F a c :=
 h.trans (G:=fun i=>row=some i) ⟨hg.os,hg.tape,hg.output,hg.size,fun k hk hn=>hg.block k hk (fun e=>hn e.symm)⟩ (fun i hi=>hr i hi)
theorem Only.of_below {F:Nat→Prop} {a b c:World} (h:Only F a b) (hb:Below b.heap.size b c):Only F a c :=
 h.trans (G:=fun _=>False) ⟨hb.os,hb.tape,hb.output,hb.size,fun k hk _=>hb.block k hk⟩ (fun _ h=>h.elim)
theorem Only.below {F:Nat→Prop} {a b:World} (h:Only F a b) {N:Nat} (hN:N≤a.heap.size) (hF:∀ i,F i→N≤i):Below N a b :=
 ⟨h.os,h.tape,h.output,h.size,fun k hk=>h.block k (by omega) (fun hf=>by have:=hF k hf; omega)⟩
theorem Only.mono {F G:Nat→Prop} {a b:World} (h:Only F a b) (hG:∀ i,F i→G i∨a.heap.size≤i):Only G a b :=
 (Only.refl G a).trans h hG
def Blk (w:World) (g:Nat) (t:TypeId) (cs:Array Value):Prop:=w.heap[g]? = some (.cells cs t (0,0))
section
variable {w w' : World} {g:Nat} {t:TypeId} {cs:Array Value}
theorem lt_of_some {o:Obj} (h:w.heap[g]? = some o):g<w.heap.size:=(Array.getElem?_eq_some_iff.1 h).1
theorem Blk.lt (h:Blk w g t cs):g<w.heap.size:=lt_of_some h
theorem Blk.cell (h:Blk w g t cs) (i:Nat):w.cell? ⟨g,i,none⟩=cs[i]?:=cell_of_row w g i cs t (0,0) h
theorem Blk.frozen (h:Blk w g t cs) (i:Nat):w.frozen? ⟨g,i,none⟩=false:=by
 unfold Blk at h
 simp [World.frozen?,h]
theorem Blk.new (w:World) (t:TypeId) (cs:Array Value):Blk (w.alloc (.cells cs t)) w.heap.size t cs:=heap_alloc_new w _
theorem Blk.drew (h:Blk w g t cs):Blk w.drew g t cs:=h
theorem Blk.alloc (h:Blk w g t cs) (o:Obj):Blk (w.alloc o) g t cs:=(Below.heap_alloc w o g h.lt).trans h
theorem Blk.set_ (h:Blk w g t cs) (i:Nat) (u:Value):Blk (w.setCell ⟨g,i,none⟩ u) g t (cs.setIfInBounds i u):=by
 unfold Blk at h ⊢
 simp [World.setCell,Array.getElem?_modify,h]
theorem Blk.far (h:Blk w g t cs) {p:Addr} (hp:g≠p.block) (u:Value):Blk (w.setCell p u) g t cs:=(Below.heap_setCell w p u g hp).trans h
theorem Blk.grown {row:Option Nat} (h:Blk w g t cs) (hb:w.grownBy w' row) (hg:some g≠row):Blk w' g t cs:=(hb.block g h.lt hg).trans h
theorem Blk.only {F:Nat→Prop} (h:Blk w g t cs) (hb:Only F w w') (hg:¬ F g):Blk w' g t cs:=(hb.block g h.lt hg).trans h
theorem Blk.ne_ {g' : Nat} {t' : TypeId} {cs' : Array Value} (h:Blk w g t cs) (h' : Blk w g' t' cs') (hne:t≠t'):g≠g':=by
 rintro rfl
 unfold Blk at h h'
 rw [h] at h'
 injection h' with h'
 injection h' with _ ht
 exact hne ht
theorem Blk.there (h:Blk w g t cs) (o n:Nat) (hn:o+n≤cs.size):w.there g o n:=fun j hj=>by
 rw [h.cell,h.frozen]
 simp; omega
theorem Blk.range (h:Blk w g t cs) (o:Nat) (l:List Value) (hl:∀ j v,l[j]? = some v→cs[o+j]? = some v):w.rangeAt g o l:=fun j v hv=>by
 rw [h.cell]; exact hl j v hv
end
structure MapIn (es:Array MapEntry) (f:Int→Option Value):Prop where
 at_:∀ (i:Nat) (e:MapEntry),es[i]? = some e→∃ k,e.key=.int .i64 k∧f k=some e.val
 one:∀ (i j:Nat) (e e' : MapEntry),es[i]? = some e→es[j]? = some e'→e.key=e'.key→i=j
 all:∀ k v,f k=some v→∃ (i:Nat) (e:MapEntry),es[i]? = some e∧e.key=.int .i64 k
def MapIs (w:World) (b:Nat) (f:Int→Option Value):Prop:=∃ es clock,w.heap[b]? = some (.map es clock)∧MapIn es f
section
variable {w w' : World} {b:Nat} {f:Int→Option Value}
theorem MapIs.lt (h:MapIs w b f):b<w.heap.size:=let ⟨_,_,hb,_⟩:=h; lt_of_some hb
theorem MapIs.same (h:MapIs w b f) (hb:w'.heap[b]? = w.heap[b]?):MapIs w' b f:=let ⟨es,c,h1,h2⟩:=h; ⟨es,c,hb.trans h1,h2⟩
theorem MapIs.drew (h:MapIs w b f):MapIs w.drew b f:=h
theorem MapIs.alloc (h:MapIs w b f) (o:Obj):MapIs (w.alloc o) b f:=h.same (Below.heap_alloc w o b h.lt)
theorem MapIs.only {F:Nat→Prop} (h:MapIs w b f) (ho:Only F w w') (hF:¬ F b):MapIs w' b f:=h.same (ho.block b h.lt hF)
theorem MapIs.grown {row:Option Nat} (h:MapIs w b f) (hb:w.grownBy w' row) (hg:some b≠row):MapIs w' b f:=h.same (hb.block b h.lt hg)
theorem MapIs.ne_blk {g:Nat} {t:TypeId} {cs:Array Value} (h:MapIs w b f) (hg:Blk w g t cs):b≠g:=by
 rintro rfl
 obtain ⟨es,c,h1,_⟩:=h
 unfold Blk at hg
 rw [h1] at hg
 cases hg
theorem MapIs.new (w:World):MapIs (w.alloc (.map #[] 0)) w.heap.size (fun _=>none) :=
 ⟨#[],0,heap_alloc_new w _,⟨by simp,by simp,by simp⟩⟩
theorem MapIs.setCell (h:MapIs w b f) {p:Addr} (hp:b≠p.block) (u:Value):MapIs (w.setCell p u) b f:=h.same (Below.heap_setCell w p u b hp)
theorem MapIs.setRow (h:MapIs w b f) {g:Nat} (hp:b≠g) (cs:Array Value):MapIs (w.setRow g cs) b f:=h.same (setRow_other w g b cs hp)
theorem keyInt (k:Int):IsKey (.int .i64) (.int .i64 k):=rfl
theorem MapIn.keys {es:Array MapEntry} (h:MapIn es f):∀ x∈es.toList,IsKey (.int .i64) x.key:=fun x hx=>by
 obtain ⟨i,hi⟩:=List.mem_iff_getElem?.1 hx
 obtain ⟨k,hk,_⟩:=h.at_ i x (by simpa using hi)
 rw [hk]; rfl
theorem MapIn.look {es:Array MapEntry} (h:MapIn es f) (k:Int) :
 (f k=none∧Instr.findNow (.int .i64) (.int .i64 k) es.toList 0=some none)∨∃ v j,f k=some v∧Instr.findNow (.int .i64) (.int .i64 k) es.toList 0=some (some (j,v))∧∃ e,es[j]? = some e∧e.key=.int .i64 k:=by
 rcases findNow_spec (keyInt k) es.toList 0 h.keys with ⟨h1,h2⟩ | ⟨j,e,h1,h2,h3⟩
 ·left
  refine ⟨?_,h1⟩
  cases hf:f k with
  | none=>rfl
  | some v =>
    obtain ⟨i,e,hi,he⟩:=h.all k v hf
    exact absurd he (h2 e (List.mem_iff_getElem?.2 ⟨i,by simpa using hi⟩))
 ·right
  have hj:es[j]? = some e:=by simpa using h2
  obtain ⟨k',hk',hf⟩:=h.at_ j e hj
  rw [h3] at hk'
  injection hk' with _ hk'
  subst hk'
  exact ⟨e.val,0+j,hf,h1,e,by simpa using hj,h3⟩
theorem MapIn.put {es:Array MapEntry} (h:MapIn es f) (k:Int) (v:Value) (born:Nat) (hk:f k=none):MapIn (es.push ⟨.int .i64 k,v,born⟩) (fun j=>if j=k then some v else f j):=by
 have hfar:∀ (i:Nat) (e:MapEntry),es[i]? = some e→e.key≠.int .i64 k:=fun i e hi he=>by
  obtain ⟨k',hk',hf⟩:=h.at_ i e hi
  rw [he] at hk'; injection hk' with _ hk'; subst hk'
  rw [hk] at hf; cases hf
 refine ⟨fun i e hi=>?_,fun i j e e' hi hj he=>?_,fun j u hu=>?_⟩
 ·rw [Array.getElem?_push] at hi
  split at hi
  ·injection hi with hi; subst hi
   exact ⟨k,rfl,by simp⟩
  ·obtain ⟨k',hk',hf⟩:=h.at_ i e hi
   refine ⟨k',hk',?_⟩
   rw [if_neg (by rintro rfl; exact hfar i e hi hk')]; exact hf
 ·rw [Array.getElem?_push] at hi hj
  split at hi <;> split at hj
  ·omega
  ·injection hi with hi; subst hi
   exact absurd he.symm (hfar j e' hj)
  ·injection hj with hj; subst hj
   exact absurd he (hfar i e hi)
  ·exact h.one i j e e' hi hj he
 ·by_cases e:j=k
  ·subst e
   exact ⟨es.size,⟨.int .i64 j,v,born⟩,by simp,rfl⟩
  ·rw [if_neg e] at hu
   obtain ⟨i,x,hi,hx⟩:=h.all j u hu
   exact ⟨i,x,by rw [Array.getElem?_push,if_neg (by have:=(Array.getElem?_eq_some_iff.1 hi).1; omega)]; exact hi,hx⟩
theorem MapIn.over {es:Array MapEntry} (h:MapIn es f) (k:Int) (v:Value) (j:Nat) (e0:MapEntry) (hj:es[j]? = some e0) (h0:e0.key=.int .i64 k) :
 MapIn (es.modify j fun e=>{ e with key:=.int .i64 k,val:=v }) (fun i=>if i=k then some v else f i):=by
 have hget:∀ i:Nat,(es.modify j fun e=>{ e with key:=.int .i64 k,val:=v })[i]? = if i=j then some ⟨.int .i64 k,v,e0.born⟩ else es[i]?:=fun i=>by
  rw [Array.getElem?_modify]
  by_cases e:i=j
  ·subst e; simp [hj]
  ·rw [if_neg (Ne.symm e),if_neg e]
 have hkey:∀ (i:Nat) (x:MapEntry),(es.modify j fun e=>{ e with key:=.int .i64 k,val:=v })[i]? = some x→∃ y,es[i]? = some y∧y.key=x.key:=fun i x hx=>by
  rw [hget] at hx
  split at hx
  ·rename_i e; subst e; injection hx with hx; subst hx
   exact ⟨e0,hj,h0⟩
  ·exact ⟨x,hx,rfl⟩
 refine ⟨fun i x hi=>?_,fun i i' x x' hi hi' he=>?_,fun i u hu=>?_⟩
 ·have hi2:=hi
  rw [hget] at hi
  split at hi
  ·injection hi with hi; subst hi
   exact ⟨k,rfl,by simp⟩
  ·rename_i hne
   obtain ⟨k',hk',hf⟩:=h.at_ i x hi
   refine ⟨k',hk',?_⟩
   rw [if_neg]
   ·exact hf
   ·rintro rfl
    exact hne (h.one i j x e0 hi hj (hk'.trans h0.symm))
 ·obtain ⟨y,hy,ey⟩:=hkey i x hi
  obtain ⟨y',hy',ey'⟩:=hkey i' x' hi'
  exact h.one i i' y y' hy hy' (by rw [ey,ey',he])
 ·by_cases e:i=k
  ·subst e
   exact ⟨j,_,by rw [hget,if_pos rfl],rfl⟩
  ·rw [if_neg e] at hu
   obtain ⟨i',x,hi,hx⟩:=h.all i u hu
   refine ⟨i',x,?_,hx⟩
   rw [hget,if_neg]
   ·exact hi
   ·rintro rfl
    rw [hj] at hi
    injection hi with hi
    subst hi
    rw [h0] at hx
    injection hx with _ hx
    exact e hx.symm
variable {P:Program} {t kt et:TypeId}
theorem MapIs.run_look (h:MapIs w b f) (ht:P.underlying t=some (.map kt et)) (hk:P.underlying kt=some (.int .i64)) {z:Value} (hz:(zeroValue et).run P w=.ok z w) (k:Int) (ok:Bool) :
 (Instr.lookup t (.map (some b)) (.int .i64 k) ok).run P w=.ok (if ok then .tuple #[(f k).getD z,.bool (f k).isSome] else (f k).getD z) w:=by
 obtain ⟨es,c,hb,hm⟩:=h
 rcases hm.look k with ⟨hf,hn⟩ | ⟨v,j,hf,hn,_⟩
 ·simp [Instr.lookup,run_underlying ht,MapKept.run_getObj_map hb,run_checkKey hk (keyInt k),run_findKey hk hn,hz,hf,Result.andThen]
 ·simp [Instr.lookup,run_underlying ht,MapKept.run_getObj_map hb,run_checkKey hk (keyInt k),run_findKey hk hn,hf,Result.andThen]
theorem MapIs.run_put (h:MapIs w b f) (ht:P.underlying t=some (.map kt et)) (hk:P.underlying kt=some (.int .i64)) (k:Int) (v:Value) :
 ∃ w',(Instr.mapUpdate t (.map (some b)) (.int .i64 k) v).run P w=.ok () w'∧MapIs w' b (fun j=>if j=k then some v else f j)∧w.grownBy w' (some b):=by
 obtain ⟨es,c,hb,hm⟩:=h
 rcases hm.look k with ⟨hf,hn⟩ | ⟨u,j,hf,hn,e,hj,he⟩
 ·refine ⟨{ w with heap:=w.heap.setIfInBounds b (.map (es.push ⟨.int .i64 k,v,c⟩) (c+1)) },?_,⟨_,_,(heap_set hb).1,hm.put k v c hf⟩,⟨rfl,rfl,rfl,by simp,fun i _ hi=>(heap_set hb).2 i (fun e=>hi (by rw [e]))⟩⟩
  simp [Instr.mapUpdate,run_underlying ht,MapKept.run_getObj_map hb,run_checkKey hk (keyInt k),run_findKey hk hn,run_setObj_map _ hb,Result.andThen]
 ·refine ⟨{ w with heap:=w.heap.setIfInBounds b (.map (es.modify j fun e=>{ e with key:=.int .i64 k,val:=v }) c) },?_,⟨_,_,(heap_set hb).1,hm.over k v j e hj he⟩,⟨rfl,rfl,rfl,by simp,fun i _ hi=>(heap_set hb).2 i (fun e=>hi (by rw [e]))⟩⟩
  simp [Instr.mapUpdate,run_underlying ht,MapKept.run_getObj_map hb,run_checkKey hk (keyInt k),run_findKey hk hn,hj,he,run_keyThatStays (keyInt k),run_setObj_map _ hb,Result.andThen]
end
section
variable {P:Program} {w:World} {ops:Array Oper} {rest:List Oper} {o:Oper} {a:Act} {Q:Exit→Act→World→Prop}
theorem wpList_look (hg:o.guard=none) (m x:Operand) (t:TypeId) (ok:Bool) (hop:o.op=Op.lookup t m x ok) (b:Nat) (k:Int) (v:Value) (hm:a.eval m=.map (some b)) (hx:a.eval x=.int .i64 k)
 (hrun:(Instr.lookup t (.map (some b)) (.int .i64 k) ok).run P w=.ok v w) (h:wpList P ops Q rest (a.put o.dst v) w):wpList P ops Q (o :: rest) a w:=by
 refine wpList_plain hg fun K' hK'=>?_
 unfold Oper.wp
 simp [execOp,hop,hm,hx,hrun,Result.andThen]
 exact hK' _ _ h
theorem wpList_put (hg:o.guard=none) (m x y:Operand) (t:TypeId) (hop:o.op=Op.mapUpdate t m x y) (b:Nat) (k:Int) (v:Value) (hm:a.eval m=.map (some b)) (hx:a.eval x=.int .i64 k) (hy:a.eval y=v)
 {kt et:TypeId} {f:Int→Option Value} (hf:MapIs w b f) (ht:P.underlying t=some (.map kt et)) (hk:P.underlying kt=some (.int .i64))
 (h:∀ w',MapIs w' b (fun j=>if j=k then some v else f j)→w.grownBy w' (some b)→wpList P ops Q rest (a.put o.dst undef) w'):wpList P ops Q (o :: rest) a w:=by
 refine wpList_plain hg fun K' hK'=>?_
 obtain ⟨w',hrun,h1,h2⟩:=hf.run_put ht hk k v
 unfold Oper.wp
 simp [execOp,hop,hm,hx,hy,hrun,Result.andThen]
 exact hK' _ _ (h w' h1 h2)
end
open Go.RowKit Go.MapKept
set_option linter.unusedVariables false
def zeroS:ByteArray:=⟨Array.replicate 128 0⟩
def secL (s:ByteArray):List Value:=s.data.toList.map fun b=>Value.int .u8 ((b.toNat:Nat):Int)
def wrL (p:Int × ByteArray):List Value:=Value.int .i64 p.1 :: secL p.2
def secA (s:ByteArray):Array Value:=(secL s).toArray
def wrA (p:Int × ByteArray):Array Value:=(wrL p).toArray
abbrev secV (s:ByteArray):Value:=.agg (secA s)
def mix (n:Nat) (a b:ByteArray):ByteArray:=⟨(a.data.toList.take n++b.data.toList.drop n).toArray⟩
theorem len_data (s:ByteArray):s.data.toList.length=s.size:=by simp
theorem secL_len (s:ByteArray):(secL s).length=s.size:=by simp [secL]
theorem wrL_len (p:Int × ByteArray):(wrL p).length=p.2.size+1:=by simp [wrL,secL_len]
theorem secL_one (s:ByteArray):∀ v∈secL s,v.oneCell' = true:=by
 intro v hv
 obtain ⟨b,_,rfl⟩:=List.mem_map.1 hv
 rfl
theorem wrL_one (p:Int × ByteArray):∀ v∈wrL p,v.oneCell' = true:=by
 intro v hv
 rcases List.mem_cons.1 hv with rfl|hv
 ·rfl
 ·exact secL_one _ v hv
theorem secA_size (s:ByteArray):(secA s).size=s.size:=by simp [secA,secL_len]
theorem wrA_size (p:Int × ByteArray):(wrA p).size=p.2.size+1:=by simp [wrA,wrL_len]
theorem secA_one (s:ByteArray):(secA s).all (·.oneCell')=true:=all_oneCell_toArray (secL_one s)
theorem wrA_one (p:Int × ByteArray):(wrA p).all (·.oneCell')=true:=all_oneCell_toArray (wrL_one p)
theorem secL_mix (n:Nat) (a b:ByteArray):secL (mix n a b)=(secL a).take n++(secL b).drop n:=by
 simp [secL,mix,List.map_take,List.map_drop]
theorem mix_size (n:Nat) (a b:ByteArray) (ha:a.size=128) (hb:b.size=128):(mix n a b).size=128:=by
 have h1:=len_data a
 have h2:=len_data b
 have:(mix n a b).size=(a.data.toList.take n++b.data.toList.drop n).length:=rfl
 rw [this,List.length_append,List.length_take,List.length_drop]
 omega
theorem mix_all (a b:ByteArray) (ha:a.size=128) (hb:b.size=128):mix 128 a b=a:=by
 have h1:=len_data a
 have h2:=len_data b
 unfold mix
 rw [List.take_of_length_le (by omega),List.drop_eq_nil_of_le (by omega),List.append_nil]
theorem mix_none (a b:ByteArray):mix 0 a b=b:=by
 unfold mix
 rw [List.take_zero,List.drop_zero,List.nil_append]
theorem zeroS_size:zeroS.size=128:=Array.size_replicate
theorem zero_sec:(∀ w,(zeroValue 161).run Tryz.prog w=.ok (secV zeroS) w)∧(Tryz.prog.info? 161).map (·.size)=some 128:=by
 have h:(Tryz.prog.info? 161).map (fun i=>(i.zero,i.size))=some (some (secV zeroS),128):=by kernel_rfl
 exact zero_of_info h
theorem zero_wr:(∀ w,(zeroValue 163).run Tryz.prog w=.ok (.agg (wrA (0,zeroS))) w)∧(Tryz.prog.info? 163).map (·.size)=some 129:=by
 have h:(Tryz.prog.info? 163).map (fun i=>(i.zero,i.size))=some (some (.agg (wrA (0,zeroS))),129):=by kernel_rfl
 exact zero_of_info h
structure St where
 set:Bool
 left:Int
 size:Int
 held:Int→ByteArray
 pend:List (Int × ByteArray)
def over (l:List (Int × ByteArray)) (i:Int) (x:ByteArray):ByteArray:=l.foldl (fun a p=>if p.1=i then p.2 else a) x
theorem over_nil (i:Int) (x:ByteArray):over [] i x=x:=rfl
theorem over_snoc (l:List (Int × ByteArray)) (p:Int × ByteArray) (i:Int) (x:ByteArray):over (l++[p]) i x=if p.1=i then p.2 else over l i x:=by
 simp [over,List.foldl_append]
def St.cur (s:St) (i:Int):ByteArray:=over s.pend i (s.held i)
def do1 (h:Int→ByteArray) (p:Int × ByteArray) (n:Nat):Int→ByteArray:=fun j=>if j=p.1 then mix n p.2 (h j) else h j
def crashTo (keep:Nat→Bool) (torn:Int) (n:Nat) (l:List (Int × ByteArray)) (h:Int→ByteArray):Nat→Int→ByteArray
 | 0=>h
 | k+1=>match l[k]? with
   | none=>crashTo keep torn n l h k
   | some p=>if keep k then do1 (crashTo keep torn n l h k) p 128 else if (k:Int)=torn then do1 (crashTo keep torn n l h k) p n else crashTo keep torn n l h k
def St.new (n:Int):St:=⟨false,0,n,fun _=>zeroS,[]⟩
def St.use (s:St):St:={ s with left:=if s.set then s.left-1 else s.left }
def St.write (s:St) (i:Int) (x:ByteArray):St:={ s.use with pend:=s.pend++[(i,x)] }
def St.flush (s:St):St:={ s.use with pend:=[],held:=crashTo (fun _=>true) 0 0 s.pend s.held s.pend.length }
def St.crash (s:St) (keep:Nat→Bool) (torn:Int) (n:Nat):St:={ s with set:=false,left:=0,pend:=[],held:=crashTo keep torn n s.pend s.held s.pend.length }
def St.did (s:St) (h:Int→ByteArray):St:={ s with held:=h }
def St.dead (s:St):Prop:=s.set=true∧s.left<1
def St.has (s:St) (i:Int):Prop:=0≤i∧i<s.size
structure St.Good (s:St):Prop where
 size1:1≤s.size
 size2:s.size≤4096
 left1:-9223372036854775808≤s.left
 left2:s.left≤9223372036854775807
 held:∀ i,(s.held i).size=128
 pend:∀ p∈s.pend,p.2.size=128∧0≤p.1∧p.1<s.size
theorem do1_size {h:Int→ByteArray} {p:Int × ByteArray} {n:Nat} (hh:∀ i,(h i).size=128) (hp:p.2.size=128):∀ i,(do1 h p n i).size=128:=by
 intro i
 unfold do1
 split
 ·exact mix_size n _ _ hp (hh i)
 ·exact hh i
theorem crashTo_size {keep:Nat→Bool} {torn:Int} {n:Nat} {l:List (Int × ByteArray)} {h:Int→ByteArray} (hh:∀ i,(h i).size=128) (hl:∀ p∈l,p.2.size=128):∀ k i,(crashTo keep torn n l h k i).size=128
 | 0,i=>hh i
 | k+1,i=>by
   have ih:=crashTo_size (keep:=keep) (torn:=torn) (n:=n) hh hl k
   cases hp:l[k]? with
   | none=>simp only [crashTo,hp]; exact ih i
   | some p =>
     have h128:=hl p (List.mem_of_getElem? hp)
     simp only [crashTo,hp]
     split
     ·exact do1_size ih h128 i
     ·split
      ·exact do1_size ih h128 i
      ·exact ih i
theorem St.Good.new {n:Int} (h1:1≤n) (h2:n≤4096):(St.new n).Good:=⟨h1,h2,by simp [St.new],by simp [St.new],fun _=>zeroS_size,by simp [St.new]⟩
theorem St.Good.use {s:St} (h:s.Good) (hd:¬ s.dead):s.use.Good:=by
 have h1:=h.left1
 have h2:=h.left2
 refine ⟨h.size1,h.size2,?_,?_,h.held,h.pend⟩
 all_goals
  unfold St.dead at hd
  simp only [St.use]
  split
  ·rename_i e
   have:¬ s.left<1:=fun hl=>hd ⟨e,hl⟩
   omega
  ·omega
theorem St.Good.write {s:St} (h:s.Good) (hd:¬ s.dead) {i:Int} {x:ByteArray} (hi:s.has i) (hx:x.size=128):(s.write i x).Good:=by
 have hu:=h.use hd
 refine ⟨hu.size1,hu.size2,hu.left1,hu.left2,hu.held,fun p hp=>?_⟩
 rcases List.mem_append.1 hp with hp|hp
 ·exact h.pend p hp
 ·rcases List.mem_singleton.1 hp with rfl
  exact ⟨hx,hi.1,hi.2⟩
theorem St.Good.did {s:St} (h:s.Good) {g:Int→ByteArray} (hg:∀ i,(g i).size=128):(s.did g).Good:=⟨h.size1,h.size2,h.left1,h.left2,hg,h.pend⟩
theorem St.Good.flush {s:St} (h:s.Good) (hd:¬ s.dead):s.flush.Good:=by
 have hu:=h.use hd
 exact ⟨hu.size1,hu.size2,hu.left1,hu.left2,crashTo_size h.held (fun p hp=>(h.pend p hp).1) _,by simp [St.flush]⟩
theorem St.Good.crash {s:St} (h:s.Good) (keep:Nat→Bool) (torn:Int) (n:Nat):(s.crash keep torn n).Good :=
 ⟨h.size1,h.size2,by simp [St.crash],by simp [St.crash],crashTo_size h.held (fun p hp=>(h.pend p hp).1) _,by simp [St.crash]⟩
def LastOK (f:Int→Option Value) (l:List (Int × ByteArray)):Prop :=
 ∀ i,(f i=none∧∀ x,over l i x=x)∨∃ (k:Nat) (y:ByteArray),f i=some (.int .i64 (k:Int))∧l[k]? = some (i,y)∧∀ x,over l i x=y
theorem LastOK.nil:LastOK (fun _=>none) []:=fun i=>.inl ⟨rfl,fun _=>rfl⟩
theorem LastOK.snoc {f:Int→Option Value} {l:List (Int × ByteArray)} (h:LastOK f l) (j:Int) (y:ByteArray) :
 LastOK (fun i=>if i=j then some (.int .i64 (l.length:Int)) else f i) (l++[(j,y)]):=fun i=>by
 by_cases e:i=j
 ·subst e
  exact .inr ⟨l.length,y,by simp,by simp,fun x=>by rw [over_snoc,if_pos rfl]⟩
 ·have hov:∀ x,over (l++[(j,y)]) i x=over l i x:=fun x=>by rw [over_snoc,if_neg (fun h=>e h.symm)]
  rcases h i with ⟨h1,h2⟩ | ⟨k,z,h1,h2,h3⟩
  ·exact .inl ⟨by simp [e,h1],fun x=>(hov x).trans (h2 x)⟩
  ·exact .inr ⟨k,z,by simp [e,h1],by rw [List.getElem?_append_left (List.getElem?_eq_some_iff.1 h2).1]; exact h2,fun x=>(hov x).trans (h3 x)⟩
def HeldOK (f:Int→Option Value) (h:Int→ByteArray):Prop:=∀ i,(f i).getD (secV zeroS)=secV (h i)
theorem HeldOK.new:HeldOK (fun _=>none) (fun _=>zeroS):=fun i=>rfl
theorem HeldOK.put {f:Int→Option Value} {h:Int→ByteArray} (hf:HeldOK f h) (j:Int) (x:ByteArray):HeldOK (fun i=>if i=j then some (secV x) else f i) (fun i=>if i=j then x else h i):=fun i=>by
 by_cases e:i=j
 ·simp [e]
 ·simp only [if_neg e]; exact hf i
structure DiskIn (w:World) (d h l:Nat) (v:Value) (F:Nat→Prop) (s:St):Prop where
 fd:F d
 fh:F h
 fl:F l
 fv:∀ g,v.ownBlock=some g→F g
 hl:h≠l
 blk:Blk w d 152 #[.bool s.set,.int .i64 s.left,.int .i64 s.size,.map (some h),v,.map (some l)]
 held:∃ f,MapIs w h f∧HeldOK f s.held
 last:∃ f,MapIs w l f∧LastOK f s.pend
 own:w.ownsRow 0 163 129 v s.pend.length (s.pend.flatMap wrL)
 lt:∀ b,F b→b<w.heap.size
 good:s.Good
def DiskAt (w:World) (d:Nat) (F:Nat→Prop) (s:St):Prop:=∃ h l v,DiskIn w d h l v F s
section
variable {w w' : World} {d h l:Nat} {v:Value} {F:Nat→Prop} {s:St}
theorem DiskIn.dh (D:DiskIn w d h l v F s):h≠d:=let ⟨_,hm,_⟩:=D.held; hm.ne_blk D.blk
theorem DiskIn.dl (D:DiskIn w d h l v F s):l≠d:=let ⟨_,hm,_⟩:=D.last; hm.ne_blk D.blk
theorem own_ne {e t:TypeId} {base size n g:Nat} {cs:Array Value} {xs:List Value} (ho:w.ownsRow base e size v n xs) (hg:Blk w g t cs) (hne:e≠t):v.ownBlock≠some g:=by
 rcases ho.2 with ⟨rfl,_⟩ | ⟨g',cap,cur,rfl,_,hh,_⟩
 ·simp [Value.ownBlock]
 ·intro he
  have:g' = g:=by simpa [Value.ownBlock] using he
  subst this
  exact Blk.ne_ (t:=e) hh hg hne rfl
theorem own_ne_map {e:TypeId} {base size n g:Nat} {f:Int→Option Value} {xs:List Value} (ho:w.ownsRow base e size v n xs) (hg:MapIs w g f):v.ownBlock≠some g:=by
 rcases ho.2 with ⟨rfl,_⟩ | ⟨g',cap,cur,rfl,_,hh,_⟩
 ·simp [Value.ownBlock]
 ·intro he
  have:g' = g:=by simpa [Value.ownBlock] using he
  subst this
  exact hg.ne_blk hh rfl
theorem DiskIn.dv (D:DiskIn w d h l v F s):v.ownBlock≠some d:=own_ne D.own D.blk (by decide)
theorem DiskIn.hv (D:DiskIn w d h l v F s):v.ownBlock≠some h:=let ⟨_,hm,_⟩:=D.held; own_ne_map D.own hm
theorem DiskIn.lv (D:DiskIn w d h l v F s):v.ownBlock≠some l:=let ⟨_,hm,_⟩:=D.last; own_ne_map D.own hm
theorem own_same {e:TypeId} {base size n:Nat} {xs:List Value} (ho:w.ownsRow base e size v n xs) (hs:∀ g,v.ownBlock=some g→w'.heap[g]? = w.heap[g]?):w'.ownsRow base e size v n xs:=by
 refine ⟨ho.1,?_⟩
 rcases ho.2 with hn | ⟨g,cap,cur,rfl,hb,hgg,rest⟩
 ·exact .inl hn
 ·exact .inr ⟨g,cap,cur,rfl,hb,by rw [hs g rfl]; exact hgg,rest⟩
theorem DiskIn.far {G:Nat→Prop} (D:DiskIn w d h l v F s) (ho:Only G w w') (hG:∀ i,F i→¬ G i):DiskIn w' d h l v F s :=
 have hs:∀ i,F i→w'.heap[i]? = w.heap[i]?:=fun i hi=>ho.block i (D.lt i hi) (hG i hi)
 ⟨D.fd,D.fh,D.fl,D.fv,D.hl,(hs d D.fd).trans D.blk,let ⟨f,h1,h2⟩:=D.held; ⟨f,h1.same (hs h D.fh),h2⟩,let ⟨f,h1,h2⟩:=D.last; ⟨f,h1.same (hs l D.fl),h2⟩,
  own_same D.own (fun g hg=>hs g (D.fv g hg)),fun b hb=>Nat.lt_of_lt_of_le (D.lt b hb) ho.size,D.good⟩
theorem DiskAt.far {G:Nat→Prop} (D:DiskAt w d F s) (ho:Only G w w') (hG:∀ i,F i→¬ G i):DiskAt w' d F s:=let ⟨h,l,v,D⟩:=D; ⟨h,l,v,D.far ho hG⟩
theorem DiskIn.later (D:DiskIn w d h l v F s) (hb:Below w.heap.size w w'):DiskIn w' d h l v F s:=D.far (G:=fun _=>False) ((Only.refl _ w).of_below hb) (fun _ _ h=>h)
theorem DiskAt.later (D:DiskAt w d F s) (hb:Below w.heap.size w w'):DiskAt w' d F s:=let ⟨h,l,v,D⟩:=D; ⟨h,l,v,D.later hb⟩
theorem DiskAt.drew (D:DiskAt w d F s):DiskAt w.drew d F s:=D.later ((Below.refl _ _).drew)
theorem DiskAt.alloc (D:DiskAt w d F s) (o:Obj):DiskAt (w.alloc o) d F s:=D.later ((Below.refl _ _).alloc (Nat.le_refl _) o)
theorem DiskAt.good (D:DiskAt w d F s):s.Good:=let ⟨_,_,_,D⟩:=D; D.good
theorem DiskAt.fd (D:DiskAt w d F s):F d:=let ⟨_,_,_,D⟩:=D; D.fd
theorem DiskAt.lt (D:DiskAt w d F s):∀ b,F b→b<w.heap.size:=let ⟨_,_,_,D⟩:=D; D.lt
end
open Go.RowKit Go.MapKept Go.Lib
set_option linter.unusedVariables false
section
variable {w:World} {d h l:Nat} {v:Value} {F:Nat→Prop} {s:St}
theorem DiskIn.c0 (D:DiskIn w d h l v F s):w.cell? ⟨d,0,none⟩=some (.bool s.set):=D.blk.cell 0
theorem DiskIn.c1 (D:DiskIn w d h l v F s):w.cell? ⟨d,1,none⟩=some (.int .i64 s.left):=D.blk.cell 1
theorem DiskIn.c2 (D:DiskIn w d h l v F s):w.cell? ⟨d,2,none⟩=some (.int .i64 s.size):=D.blk.cell 2
theorem DiskIn.c3 (D:DiskIn w d h l v F s):w.cell? ⟨d,3,none⟩=some (.map (some h)):=D.blk.cell 3
theorem DiskIn.c4 (D:DiskIn w d h l v F s):w.cell? ⟨d,4,none⟩=some v:=D.blk.cell 4
theorem DiskIn.c5 (D:DiskIn w d h l v F s):w.cell? ⟨d,5,none⟩=some (.map (some l)):=D.blk.cell 5
end
theorem has_yes {w:World} {d:Nat} {F:Nat→Prop} {s:St} (D:DiskAt w d F s) (i:Int) (hi:s.has i) :
 Calls Tryz.prog 78 #[.pointer (some ⟨d,0,none⟩),.int .i64 i] w fun e w'=>e=.returned (.bool true)∧w=w':=by
 obtain ⟨h,l,v,D⟩:=D
 obtain ⟨h1,h2⟩:=hi
 have c2:=D.c2
 clear D
 go_enter Tryz.func78,Tryz.ntmps78
 go_wp2
 go_ret
 exact ⟨rfl,rfl⟩
theorem usedUp_yes {w:World} {d:Nat} {F:Nat→Prop} {s:St} (D:DiskAt w d F s) (hd:s.dead) :
 Calls Tryz.prog 79 #[.pointer (some ⟨d,0,none⟩)] w fun e w'=>e=.returned (.bool true)∧w=w':=by
 obtain ⟨h,l,v,D⟩:=D
 obtain ⟨h1,h2⟩:=hd
 have c0:=D.c0
 have c1:=D.c1
 rw [h1] at c0
 clear D h1
 go_enter Tryz.func79,Tryz.ntmps79
 go_wp2
 go_ret
 exact ⟨rfl,rfl⟩
theorem usedUp_no {w:World} {d:Nat} {F:Nat→Prop} {s:St} (D:DiskAt w d F s) (hd:¬ s.dead) :
 Calls Tryz.prog 79 #[.pointer (some ⟨d,0,none⟩)] w fun e w'=>e=.returned (.bool false)∧w=w':=by
 obtain ⟨h,l,v,D⟩:=D
 have c0:=D.c0
 have c1:=D.c1
 unfold St.dead at hd
 clear D
 cases hs:s.set
 ·rw [hs] at c0
  clear hd hs
  go_enter Tryz.func79,Tryz.ntmps79
  go_wp2
  go_ret
  exact ⟨rfl,rfl⟩
 ·rw [hs] at c0
  have h2:1≤s.left:=by
   by_cases e:s.left<1
   ·exact absurd ⟨hs,e⟩ hd
   ·omega
  have h3:decide (s.left<1)=false:=by simp; omega
  clear hd hs h2
  go_enter Tryz.func79,Tryz.ntmps79
  go_wp2
  go_ret
  exact ⟨rfl,rfl⟩
theorem len_any {w:World} {d:Nat} {F:Nat→Prop} {s:St} (D:DiskAt w d F s) :
 Calls Tryz.prog 56 #[.pointer (some ⟨d,0,none⟩)] w fun e w'=>e=.returned (.int .i64 s.size)∧w=w':=by
 obtain ⟨h,l,v,D⟩:=D
 have c2:=D.c2
 clear D
 go_enter Tryz.func56,Tryz.ntmps56
 go_wp2
 go_ret
 exact ⟨rfl,rfl⟩
theorem own_slice {w:World} {base:Nat} {e:TypeId} {size n:Nat} {v:Value} {xs:List Value} (ho:w.ownsRow base e size v n xs):∃ A c,v=.slice A n c:=by
 rcases ho.2 with ⟨rfl,rfl⟩ | ⟨g,cap,cur,rfl,_⟩
 ·exact ⟨none,0,rfl⟩
 ·exact ⟨_,_,rfl⟩
theorem DiskIn.turn {w w' : World} {d h l:Nat} {v:Value} {F:Nat→Prop} {s s' : St} (D:DiskIn w d h l v F s) (ho:Only (fun i=>i=d) w w')
 (hb:Blk w' d 152 #[.bool s'.set,.int .i64 s'.left,.int .i64 s'.size,.map (some h),v,.map (some l)]) (h1:s'.held=s.held) (h2:s'.pend=s.pend) (hg:s'.Good):DiskIn w' d h l v F s':=by
 have hs:∀ i,i<w.heap.size→i≠d→w'.heap[i]? = w.heap[i]?:=fun i hi hne=>ho.block i hi hne
 refine ⟨D.fd,D.fh,D.fl,D.fv,D.hl,hb,?_,?_,?_,fun b hb=>Nat.lt_of_lt_of_le (D.lt b hb) ho.size,hg⟩
 ·obtain ⟨f,m1,m2⟩:=D.held
  exact ⟨f,m1.same (hs h (D.lt h D.fh) D.dh),by rw [h1]; exact m2⟩
 ·obtain ⟨f,m1,m2⟩:=D.last
  exact ⟨f,m1.same (hs l (D.lt l D.fl) D.dl),by rw [h2]; exact m2⟩
 ·rw [h2]
  exact own_same D.own (fun g hg=>hs g (D.lt g (D.fv g hg)) (fun e=>D.dv (by rw [hg,e])))
theorem use_any {w:World} {d:Nat} {F:Nat→Prop} {s:St} (D:DiskAt w d F s) (hd:¬ s.dead) :
 Calls Tryz.prog 80 #[.pointer (some ⟨d,0,none⟩)] w fun e w'=>e=.returned (.tuple #[])∧DiskAt w' d F s.use∧Only F w w':=by
 obtain ⟨h,l,v,D⟩:=D
 have hg:=D.good.use hd
 have c0:=D.c0
 have c1:=D.c1
 have f1:=D.blk.frozen 1
 unfold St.dead at hd
 cases hs:s.set
 ·rw [hs] at c0
  have e1:s.use=s:=by cases s; simp only at hs; subst hs; rfl
  have H1:=Lib.hid e1
  have HD:=Lib.hid (⟨h,l,v,D⟩:DiskAt w d F s)
  clear hd hs e1 D hg
  go_enter Tryz.func80,Tryz.ntmps80
  go_wp2
  go_end0
  exact ⟨rfl,by rw [H1.out]; exact HD.out,Only.refl _ _⟩
 ·rw [hs] at c0
  have h2:1≤s.left:=by
   by_cases e:s.left<1
   ·exact absurd ⟨hs,e⟩ hd
   ·omega
  have h3:=D.good.left2
  have b1:=D.blk.set_ 1 (.int .i64 (s.left-1))
  have e1:s.use = { s with left:=s.left-1 }:=by unfold St.use; rw [hs]; rfl
  have D1:DiskIn (w.setCell ⟨d,1,none⟩ (.int .i64 (s.left-1))) d h l v F s.use:=by
   refine D.turn ((Only.refl (fun i=>i=d) w).setCell (p:=⟨d,1,none⟩) (.inl rfl) _) ?_ (by rw [e1]) (by rw [e1]) hg
   rw [e1]
   exact b1
  have HD:=Lib.hid (⟨h,l,v,D1⟩:DiskAt _ d F s.use)
  have fd:=D.fd
  clear hd hs e1 D b1 D1 hg
  go_enter Tryz.func80,Tryz.ntmps80
  go_wp2
  go_end0
  exact ⟨rfl,HD.out,(Only.refl _ _).setCell (.inl fd) _⟩
def St.forgot (s:St):St:={ s with pend:=[] }
def Grew (w:World) (F F' : Nat→Prop):Prop:=∀ b,F' b→F b∨w.heap.size≤b
theorem Grew.refl (w:World) (F:Nat→Prop):Grew w F F:=fun _ h=>.inl h
theorem Grew.trans {w w1:World} {F G H:Nat→Prop} (h:Grew w F G) (k:Grew w1 G H) (hs:w.heap.size≤w1.heap.size):Grew w F H:=fun b hb=>by
 rcases k b hb with h1|h1
 ·exact h b h1
 ·exact .inr (by omega)
theorem forget_any {w:World} {d:Nat} {F:Nat→Prop} {s:St} (D:DiskAt w d F s) :
 Calls Tryz.prog 84 #[.pointer (some ⟨d,0,none⟩)] w fun e w'=>e=.returned (.tuple #[])∧(∃ F',DiskAt w' d F' s.forgot∧Grew w F F')∧Only F w w':=by
 obtain ⟨h,l,v,D⟩:=D
 have c4:=D.c4
 have c5:=D.c5
 have f4:=D.blk.frozen 4
 have f5:=D.blk.frozen 5
 have hmm:=@run_makeMap Tryz.prog
 have hdl:=D.blk.lt
 have o3:Only (fun i=>i=d) w (((w.setCell ⟨d,4,none⟩ (.slice none 0 0)).setCell ⟨d,5,none⟩ (.map (some w.heap.size))).alloc (.map #[] 0)) :=
  (((Only.refl (fun i=>i=d) w).setCell (p:=⟨d,4,none⟩) (.inl rfl) _).setCell (p:=⟨d,5,none⟩) (.inl rfl) _).alloc _
 have D1:DiskIn (((w.setCell ⟨d,4,none⟩ (.slice none 0 0)).setCell ⟨d,5,none⟩ (.map (some w.heap.size))).alloc (.map #[] 0)) d h w.heap.size (.slice none 0 0) (fun b=>F b∨b=w.heap.size) s.forgot:=by
  have hsz:((w.setCell ⟨d,4,none⟩ (.slice none 0 0)).setCell ⟨d,5,none⟩ (.map (some w.heap.size))).heap.size=w.heap.size:=by simp [World.setCell]
  refine ⟨.inl D.fd,.inl D.fh,.inr rfl,by simp [Value.ownBlock],Nat.ne_of_lt (D.lt h D.fh),?_,?_,?_,World.ownsRow_nil _ _ _ _,?_,?_⟩
  ·exact ((D.blk.set_ 4 (.slice none 0 0)).set_ 5 (.map (some w.heap.size))).alloc _
  ·obtain ⟨f,m1,m2⟩:=D.held
   exact ⟨f,m1.only o3 D.dh,m2⟩
  ·refine ⟨_,?_,LastOK.nil⟩
   have:=MapIs.new ((w.setCell ⟨d,4,none⟩ (.slice none 0 0)).setCell ⟨d,5,none⟩ (.map (some w.heap.size)))
   rw [hsz] at this
   exact this
  ·intro b hb
   have:(((w.setCell ⟨d,4,none⟩ (.slice none 0 0)).setCell ⟨d,5,none⟩ (.map (some w.heap.size))).alloc (.map #[] 0)).heap.size=w.heap.size+1:=by simp [World.setCell]
   rw [this]
   rcases hb with hb|hb
   ·have:=D.lt b hb; omega
   ·omega
  ·exact ⟨D.good.size1,D.good.size2,D.good.left1,D.good.left2,D.good.held,by simp [St.forgot]⟩
 have HD:=Lib.hid (⟨_,⟨_,_,_,D1⟩,fun b hb=>hb.imp id (fun e=>by omega)⟩:∃ F',DiskAt _ d F' s.forgot∧Grew w F F')
 have HO:=Lib.hid (o3.mono (G:=F) (fun i e=>.inl (by rw [e]; exact D.fd)))
 clear D D1 o3
 go_enter Tryz.func84,Tryz.ntmps84
 go_wp2
 go_end0
 exact ⟨rfl,HD.out,HO.out⟩
theorem new_yes {w:World} (n:Int) (h1:1≤n) (h2:n≤4096) :
 Calls Tryz.prog 29 #[.int .i64 n] w fun e w'=>∃ d F,e=.returned (.tuple #[.pointer (some ⟨d,0,none⟩),.int .i64 0])∧DiskAt w' d F (St.new n)∧(∀ b,F b→w.heap.size≤b)∧Below w.heap.size w w':=by
 have hmm:=@run_makeMap Tryz.prog
 have D1:DiskIn (((w.alloc (.map #[] 0)).alloc (.map #[] 0)).alloc (.cells #[.bool false,.int .i64 0,.int .i64 n,.map (some w.heap.size),.slice none 0 0,.map (some (w.heap.size+1))] 152)) (w.heap.size+1+1) w.heap.size (w.heap.size+1) (.slice none 0 0) (fun b=>w.heap.size≤b∧b<w.heap.size+1+1+1) (St.new n):=by
  refine ⟨⟨by omega,by omega⟩,⟨by omega,by omega⟩,⟨by omega,by omega⟩,by simp [Value.ownBlock],by omega,?_,?_,?_,World.ownsRow_nil _ _ _ _,?_,St.Good.new h1 h2⟩
  ·have:=Blk.new ((w.alloc (.map #[] 0)).alloc (.map #[] 0)) 152 #[.bool false,.int .i64 0,.int .i64 n,.map (some w.heap.size),.slice none 0 0,.map (some (w.heap.size+1))]
   rw [show ((w.alloc (.map #[] 0)).alloc (.map #[] 0)).heap.size=w.heap.size+1+1 by simp] at this
   exact this
  ·exact ⟨_,((MapIs.new w).alloc _).alloc _,HeldOK.new⟩
  ·have:=(MapIs.new (w.alloc (.map #[] 0))).alloc (.cells #[.bool false,.int .i64 0,.int .i64 n,.map (some w.heap.size),.slice none 0 0,.map (some (w.heap.size+1))] 152)
   rw [show (w.alloc (.map #[] 0)).heap.size=w.heap.size+1 by simp] at this
   exact ⟨_,this,LastOK.nil⟩
  ·intro b hb
   simp
   omega
 have HD:=Lib.hid (⟨_,_,_,D1⟩:DiskAt _ _ _ (St.new n))
 clear D1
 have h3:decide (n<1)=false:=by simp; omega
 have h4:decide (n > 4096)=false:=by simp; omega
 go_enter Tryz.func29,Tryz.ntmps29
 go_wp2
 go_ret2
 exact ⟨_,_,rfl,HD.out,fun b hb=>hb.1,(((Below.refl _ _).alloc (Nat.le_refl _) _).alloc (by simp) _).alloc (by simp; omega) _⟩
open Go.RowKit Go.MapKept Go.Lib
set_option linter.unusedVariables false
theorem sec_at (x:ByteArray) (j:Nat) (hj:j<x.size):(secA x)[j]? = some (.int .u8 ((((x.data.toList.map fun b=>((b.toNat:Nat):Int)).getD j 0:Int)))):=by
 have:j<x.data.toList.length:=by simpa using hj
 simp [secA,secL,List.getD,List.getElem?_map,List.getElem?_eq_getElem this]
theorem conv_sec (w:World) (g:Nat) (t:TypeId) (x:ByteArray) (hx:x.size=128) (hb:Blk w g t (secA x)) :
 (convert 115 9 (.slice (some ⟨g,0,none⟩) 128 128)).run Tryz.prog w=.ok (.string x) w:=by
 have:=run_convert_bytes_arg (P:=Tryz.prog) w 115 5 Tryz.underlying115 Tryz.underlying5 g 0 128 128 (x.data.toList.map fun b=>((b.toNat:Nat):Int)) (by rw [List.length_map,len_data,hx]) (fun i hi=>by
  rw [Nat.zero_add,hb.cell,sec_at x i (by omega)]) 9 Tryz.underlying9
 rw [this]
 congr 2
 unfold strOfNums
 rw [List.map_map]
 have e:(x.data.toList.map ((fun x:Int=>UInt8.ofNat x.toNat) ∘ fun b:UInt8=>((b.toNat:Nat):Int)))=x.data.toList:=by
  conv=>rhs; rw [← List.map_id x.data.toList]
  apply List.map_congr_left
  intro b _
  simp
 rw [e]
theorem flat_at:∀ (l:List (Int × ByteArray)),(∀ p∈l,p.2.size=128)→∀ (k:Nat) (p:Int × ByteArray),l[k]? = some p→∀ j,j<129→(l.flatMap wrL)[k*129+j]? = (wrL p)[j]?
 | [],_,k,p,h,_,_=>by simp at h
 | q :: r,hl,0,p,h,j,hj=>by
   have e:q=p:=by simpa using h
   subst e
   have hq:=hl q (by simp)
   rw [List.flatMap_cons,List.getElem?_append_left (by rw [wrL_len]; omega)]
   simp
 | q :: r,hl,k+1,p,h,j,hj=>by
   have hq:=hl q (by simp)
   rw [List.flatMap_cons,List.getElem?_append_right (by rw [wrL_len]; omega),wrL_len,hq,show (k+1)*129+j-(128+1)=k*129+j by omega]
   exact flat_at r (fun p hp=>hl p (by simp [hp])) k p (by simpa using h) j hj
theorem own_range {w:World} {base:Nat} {e:TypeId} {v:Value} {l:List (Int × ByteArray)} (ho:w.ownsRow base e 129 v l.length (l.flatMap wrL)) (hl:∀ p∈l,p.2.size=128) {k:Nat} {p:Int × ByteArray} (hk:l[k]? = some p) :
 ∃ g cap,v=.slice (some ⟨g,0,none⟩) l.length cap∧w.rangeAt g (k*129) (wrL p):=by
 have hlt:k<l.length:=(List.getElem?_eq_some_iff.1 hk).1
 have hc:=fun g=>ho.cells (g:=g)
 rcases ho.2 with ⟨rfl,h0⟩ | ⟨g,cap,cur,rfl,_⟩
 ·omega
 ·refine ⟨g,cap,rfl,fun j u hu=>?_⟩
  have hj:j<129:=by
   have:=(List.getElem?_eq_some_iff.1 hu).1
   rw [wrL_len,hl p (List.mem_of_getElem? hk)] at this
   exact this
  have:=hc g rfl (k*129+j) u ((flat_at l hl k p hk j hj).trans hu)
  rw [Addr.add_mid,Nat.zero_add] at this
  exact this
theorem range_data {w:World} {g o:Nat} {p:Int × ByteArray} (h:w.rangeAt g o (wrL p)):w.rangeAt g (o+1) (secL p.2):=fun j u hu=>by
 have:=h (j+1) u (by simpa [wrL] using hu)
 rw [show o+1+j=o+(j+1) by omega]
 exact this
section
variable {ops:Array Oper} {rest:List Oper} {o:Oper} {a:Act} {w:World} {Q:Exit→Act→World→Prop}
theorem load_sec (hgd:o.guard=none) (x:Operand) (ho:o.op=.load 161 x) (b f:Nat) (hx:a.eval x=.pointer (some ⟨b,f,none⟩)) (y:ByteArray) (hy:y.size=128) (hr:w.rangeAt b f (secL y))
 (h:wpList Tryz.prog ops Q rest (a.put o.dst (.agg (secA y))) w):wpList Tryz.prog ops Q (o :: rest) a w :=
 wpList_load_mid hgd _ x ho b f hx (secL y) _ hr Tryz.underlying161 rfl (by rw [secL_len,hy]; exact zero_sec.2) h
theorem load_wr (hgd:o.guard=none) (x:Operand) (ho:o.op=.load 163 x) (b f:Nat) (hx:a.eval x=.pointer (some ⟨b,f,none⟩)) (p:Int × ByteArray) (hy:p.2.size=128) (hr:w.rangeAt b f (wrL p))
 (h:wpList Tryz.prog ops Q rest (a.put o.dst (.agg (wrA p))) w):wpList Tryz.prog ops Q (o :: rest) a w :=
 wpList_load_mid hgd _ x ho b f hx (wrL p) _ hr Tryz.underlying163 rfl (by rw [wrL_len,hy]; exact zero_wr.2) h
theorem store_sec (hgd:o.guard=none) (x y:Operand) (ho:o.op=.store 161 x y) (g:Nat) (z:ByteArray) (hx:a.eval x=.pointer (some ⟨g,0,none⟩)) (hy:a.eval y=.agg (secA z)) (t:TypeId) (old:ByteArray) (hg:Blk w g t (secA old)) (hz:z.size=128) (hol:old.size=128)
 (h:wpList Tryz.prog ops Q rest (a.put o.dst undef) (w.setRow g (secA z))):wpList Tryz.prog ops Q (o :: rest) a w :=
 wpList_store_row hgd _ x y ho g (secA z) hx hy t (secA old) hg (by rw [secA_size,hz]; exact zero_sec.2) (by rw [secA_size,secA_size,hz,hol]) (secA_one z) h
theorem store_wr (hgd:o.guard=none) (x y:Operand) (ho:o.op=.store 163 x y) (g:Nat) (p:Int × ByteArray) (hx:a.eval x=.pointer (some ⟨g,0,none⟩)) (hy:a.eval y=.agg (wrA p)) (t:TypeId) (old:Int × ByteArray) (hg:Blk w g t (wrA old)) (hz:p.2.size=128) (hol:old.2.size=128)
 (h:wpList Tryz.prog ops Q rest (a.put o.dst undef) (w.setRow g (wrA p))):wpList Tryz.prog ops Q (o :: rest) a w :=
 wpList_store_row hgd _ x y ho g (wrA p) hx hy t (wrA old) hg (by rw [wrA_size,hz]; exact zero_wr.2) (by rw [wrA_size,wrA_size,hz,hol]) (wrA_one p) h
end
set_option maxHeartbeats 1000000 in
theorem read_yes {w:World} {d:Nat} {F:Nat→Prop} {s:St} (D:DiskAt w d F s) (i:Int) (hi:s.has i) :
 Calls Tryz.prog 75 #[.pointer (some ⟨d,0,none⟩),.int .i64 i] w fun e w'=>e=.returned (.tuple #[.string (s.cur i),.int .i64 0])∧Below w.heap.size w w':=by
 have hv:=zero_sec.1
 obtain ⟨h,l,v,D⟩:=D
 obtain ⟨A,c,rfl⟩:=own_slice D.own
 have c3:=D.c3
 have c4:=D.c4
 have c5:=D.c5
 have hdl:=D.blk.lt
 obtain ⟨fh,mh,okh⟩:=D.held
 obtain ⟨fl,ml,okl⟩:=D.last
 have l1:=mh.run_look (P:=Tryz.prog) Tryz.underlying148 Tryz.underlying3 (hv w) i false
 rw [okh i] at l1
 have hhs:=D.good.held i
 have l2:=(ml.alloc (.cells (secA (s.held i)) 161)).run_look (P:=Tryz.prog) (z:=.int .i64 0) Tryz.underlying150 Tryz.underlying3 (by kernel_rfl) i true
 have B0:=Blk.new w 161 (secA zeroS)
 have B1:=Blk.new w 161 (secA (s.held i))
 rcases okl i with ⟨e1,e2⟩ | ⟨k,y,e1,e2,e3⟩
 ·rw [e1] at l2
  have hc:s.cur i=s.held i:=e2 _
  have hcv:=conv_sec (w.alloc (.cells (secA (s.held i)) 161)) w.heap.size _ (s.held i) hhs (Blk.new _ _ _)
  have HC:=Lib.hid hc
  have L1:=Lib.hid l1
  have L2:=Lib.hid l2
  have DD:DiskAt w d F s:=⟨_,_,_,D⟩
  clear hc l1 l2 e1 e2 okh okl mh ml D
  go_enter Tryz.func75,Tryz.ntmps75
  go_wp2_with fail
  refine (has_yes DD i hi).mono ?_
  rintro e w' ⟨rfl,rfl⟩
  go_wp2_with (first
   | (at_lookup; with_reducible refine wpList_look rfl (.tmp 16) (.tmp 17) 148 false rfl h i _ rfl rfl L1.out ?_)
   | (at_lookup; with_reducible refine wpList_look rfl (.tmp 23) (.tmp 24) 150 true rfl l i _ rfl rfl L2.out ?_)
   | (with_reducible refine store_sec rfl (.tmp 6) (.tmp 18) rfl w.heap.size (s.held i) rfl rfl 161 zeroS B0 hhs zeroS_size ?_; rw [World.setRow_alloc_new]))
  go_ret2
  exact ⟨by rw [HC.out]; rfl,(Below.refl _ _).alloc (Nat.le_refl _) _⟩
 ·rw [e1] at l2
  have hys:y.size=128:=(D.good.pend (i,y) (List.mem_of_getElem? e2)).1
  have hc:s.cur i=y:=e3 _
  obtain ⟨g,cap,hA,hrg⟩:=own_range D.own (fun p hp=>(D.good.pend p hp).1) e2
  have hA' : A=some ⟨g,0,none⟩:=by injection hA
  subst hA'
  clear hA
  have hkl:k<s.pend.length:=(List.getElem?_eq_some_iff.1 e2).1
  have hkz:(0:Int)≤(k:Int):=by omega
  have hkz2:(k:Int)<(s.pend.length:Int):=by omega
  have hrg2:=World.rangeAt_alloc (range_data hrg) (.cells (secA (s.held i)) 161)
  have hcv:=conv_sec (w.alloc (.cells (secA y) 161)) w.heap.size _ y hys (Blk.new _ _ _)
  have HC:=Lib.hid hc
  have L1:=Lib.hid l1
  have L2:=Lib.hid l2
  have HRG:=Lib.hid hrg2
  have DD:DiskAt w d F s:=⟨_,_,_,D⟩
  clear hc l1 l2 e1 e2 e3 okh okl mh ml D hrg hrg2
  go_enter Tryz.func75,Tryz.ntmps75
  go_wp2_with fail
  refine (has_yes DD i hi).mono ?_
  rintro e w' ⟨rfl,rfl⟩
  go_wp2_with (first
   | (at_lookup; with_reducible refine wpList_look rfl (.tmp 16) (.tmp 17) 148 false rfl h i _ rfl rfl L1.out ?_)
   | (at_lookup; with_reducible refine wpList_look rfl (.tmp 23) (.tmp 24) 150 true rfl l i _ rfl rfl L2.out ?_)
   | (with_reducible refine store_sec rfl (.tmp 6) (.tmp 18) rfl w.heap.size (s.held i) rfl rfl 161 zeroS B0 hhs zeroS_size ?_; rw [World.setRow_alloc_new])
   | (with_reducible refine load_sec rfl (.tmp 35) rfl g (k*129+1) rfl y hys HRG.out ?_)
   | (with_reducible refine store_sec rfl (.tmp 6) (.tmp 36) rfl w.heap.size y rfl rfl 161 (s.held i) B1 hys hhs ?_; rw [World.setRow_alloc_new]))
  go_ret2
  exact ⟨by rw [HC.out]; rfl,(Below.refl _ _).alloc (Nat.le_refl _) _⟩
open Go.RowKit Go.MapKept Go.Lib
set_option linter.unusedVariables false
section
variable {P:Program} {ops:Array Oper} {rest:List Oper} {o:Oper} {a:Act} {w:World} {Q:Act→Prop}
theorem still_run (hg:o.guard=none) (v:Value) (hrun:(execOp a.eval o).run P w=.ok (.value v) w) (h:wpStill P ops w Q rest (a.put o.dst v)):wpStill P ops w Q (o :: rest) a:=by
 have hw:Region.wanted o (yielded ops a.tmps)=true:=by simp [Region.wanted,hg]
 unfold wpStill
 rw [if_pos hw]
 unfold Oper.still
 rw [hrun]
 simp only [Oper.stillUpon]
 exact ⟨trivial,h⟩
end
theorem still_load_sec {ops:Array Oper} {rest:List Oper} {o:Oper} {a:Act} {w:World} {Q:Act→Prop} (hg:o.guard=none) (x:Operand) (ho:o.op=.load 161 x) (b f:Nat) (hx:a.eval x=.pointer (some ⟨b,f,none⟩)) (y:ByteArray) (hy:y.size=128) (hr:w.rangeAt b f (secL y))
 (h:wpStill Tryz.prog ops w Q rest (a.put o.dst (.agg (secA y)))):wpStill Tryz.prog ops w Q (o :: rest) a :=
 still_run hg _ (by
  have:=run_loadVar_mid (P:=Tryz.prog) w b f 161 (secL y) _ hr Tryz.underlying161 rfl (by rw [secL_len,hy]; exact zero_sec.2)
  unfold execOp
  simp only [ho,hx,Instr.loadAt,Instr.sureAddr,Sem.run_bind,Sem.run_pure,Result.andThen_ok,this]
  rfl) h
theorem secA_mix (n:Nat) (a b:ByteArray) (ha:a.size=128) (hb:b.size=128) (hn:n≤128) :
 ((secA b).toList.take 0++(secL a).take n++(secA b).toList.drop (0+((secL a).take n).length)).toArray=secA (mix n a b):=by
 have h1:=secL_len a
 rw [List.length_take,h1,ha,Nat.zero_add,Nat.min_eq_left hn]
 simp only [secA,secL_mix,List.take_zero,List.nil_append,List.toList_toArray]
theorem run_copy_sec (w:World) (ty:TypeId) (g B n cap c2:Nat) (t t' : TypeId) (x:ByteArray) (hg:Blk w g t (secA x)) (hx:x.size=128) (p:Int × ByteArray) (hp:p.2.size=128) (hB:Blk w B t' (wrA p)) (hn:n≤128) :
 (Builtin.copy_ #[115,115] ty #[.slice (some ⟨g,0,none⟩) n cap,.slice (some ⟨B,1,none⟩) 128 c2]).run Tryz.prog w=.ok (goInt ((secL p.2).take n).length) (w.setRow g (secA (mix n p.2 x))):=by
 have hl:=secL_len p.2
 have h1:=run_copy_row (P:=Tryz.prog) w 115 115 ty 5 g 0 n cap ⟨B,1,none⟩ 128 c2 (secA x) t ((secL p.2).take n) Tryz.underlying115 (by kernel_rfl) hg
  (by rw [List.length_take,hl,hp,Nat.min_comm])
  (fun j v hv=>by
   rw [Addr.add_mid,hB.cell,show 1+j=j+1 by omega]
   rw [List.getElem?_take] at hv
   split at hv
   ·simpa [wrA,wrL] using hv
   ·cases hv)
  (by rw [List.length_take,hl,hp,secA_size,hx]; omega)
  (fun v hv=>secL_one _ v (List.mem_of_mem_take hv))
 rw [secA_mix n p.2 x hp hx hn] at h1
 exact h1
theorem step_copy_sec {ops:Array Oper} {o:Oper} {a:Act} {w:World} {K:Act→World→Prop} {Q:Exit→Act→World→Prop} {E:Prop} (hgd:o.guard=none) (dd ss:Operand)
 (ho:o.op=.call { callee:=.builtin .copy,args:=#[dd,ss],argTypes:=#[115,115] }) (g B n cap c2:Nat) (hd:a.eval dd=.slice (some ⟨g,0,none⟩) n cap) (hs:a.eval ss=.slice (some ⟨B,1,none⟩) 128 c2)
 (t t' : TypeId) (x:ByteArray) (hg:Blk w g t (secA x)) (hx:x.size=128) (p:Int × ByteArray) (hp:p.2.size=128) (hB:Blk w B t' (wrA p)) (hn:n≤128)
 (h:K (a.put o.dst (goInt ((secL p.2).take n).length)) (w.setRow g (secA (mix n p.2 x)))) :
 if Region.wanted o (yielded ops a.tmps)=true then Oper.wp Tryz.prog o a w K Q else E:=by
 have hw:Region.wanted o (yielded ops a.tmps)=true:=by simp [Region.wanted,hgd]
 rw [if_pos hw]
 have hrun:=run_copy_sec w o.type g B n cap c2 t t' x hg hx p hp hB hn
 unfold Oper.wp
 simp only [execOp,ho,resolve,invoke,builtin,Sem.run_bind,Sem.run_pure,Result.andThen_ok,List.map_toArray,List.map_cons,List.map_nil,hd,hs,hrun]
 exact h
set_option maxHeartbeats 1000000 in
theorem do_any {w:World} {d h l:Nat} {v:Value} {F:Nat→Prop} {s:St} (D:DiskIn w d h l v F s) (p:Int × ByteArray) (hp:p.2.size=128) (hpi:s.has p.1) (n:Nat) (hn:n≤128) :
 Calls Tryz.prog 83 #[.pointer (some ⟨d,0,none⟩),.agg (wrA p),.int .i64 (n:Int)] w fun e w'=>e=.returned (.tuple #[])∧DiskIn w' d h l v F (s.did (do1 s.held p n))∧Only F w w':=by
 have hv:=zero_sec.1
 have c3:=D.c3
 have hdl:=D.blk.lt
 have hhl:=D.lt h D.fh
 obtain ⟨fh,mh,okh⟩:=D.held
 have hhs:=D.good.held p.1
 have BW:=Blk.new w 163 (wrA p)
 have oW:Only F w (w.alloc (.cells (wrA p) 163)):=(Only.refl _ _).alloc _
 have DW:=D.far (G:=fun _=>False) ((Only.refl _ w).alloc (.cells (wrA p) 163)) (fun _ _ h=>h)
 have HB:=Lib.hid (show (w.alloc (.cells (wrA p) 163)).heap.size=w.heap.size+1 by simp)
 have hbl:=BW.lt
 go_enter Tryz.func83,Tryz.ntmps83
 go_wp2_with fail
 clear c3 mh D
 generalize w.alloc (.cells (wrA p) 163)=W at *
 generalize w.heap.size=B at *
 have c3:=DW.c3
 obtain ⟨fh,mh,okh⟩:=DW.held
 have cw:W.cell? ⟨B,0,none⟩=some (.int .i64 p.1):=BW.cell 0
 have l1:=mh.drew.run_look (P:=Tryz.prog) Tryz.underlying148 Tryz.underlying3 (hv _) p.1 false
 have l2:=(mh.alloc (.cells (secA zeroS) 161)).drew.run_look (P:=Tryz.prog) Tryz.underlying148 Tryz.underlying3 (hv _) p.1 false
 rw [okh p.1] at l1 l2
 have hst:(storeCells ⟨W.heap.size,0,none⟩ (secA (s.held p.1)).toList 0).run Tryz.prog (W.alloc (.cells (secA zeroS) 161)).drew=.ok () (W.alloc (.cells (secA (s.held p.1)) 161)).drew :=
  run_storeCells_new (P:=Tryz.prog) W.drew 161 (secA zeroS) (secA (s.held p.1)) (by rw [secA_size,hhs]; exact zero_sec.2) (by rw [secA_size,secA_size,hhs,zeroS_size]) (secA_one _)
 have hz:(secA (s.held p.1)).size=128:=by rw [secA_size,hhs]
 have hdW:=DW.blk.lt
 have c3a:(W.alloc (.cells (secA zeroS) 161)).cell? ⟨d,3,none⟩=some (.map (some h)):=(DW.blk.alloc _).cell 3
 have cwa:(W.alloc (.cells (secA zeroS) 161)).cell? ⟨B,0,none⟩=some (.int .i64 p.1):=(BW.alloc _).cell 0
 go_region
 have D2:=DW.far (G:=fun _=>False) (((Only.refl _ W).alloc (.cells (secA (s.held p.1)) 161)).drew) (fun _ _ h=>h)
 have O2:Only F w (W.alloc (.cells (secA (s.held p.1)) 161)).drew:=(oW.alloc _).drew
 have B2:Blk (W.alloc (.cells (secA (s.held p.1)) 161)).drew B 163 (wrA p):=BW.alloc _
 have C2:Blk (W.alloc (.cells (secA (s.held p.1)) 161)).drew W.heap.size 161 (secA (s.held p.1)):=Blk.new W _ _
 have hBC:B≠W.heap.size:=Nat.ne_of_lt hbl
 have hFC:∀ b,F b→b≠W.heap.size:=fun b hb=>Nat.ne_of_lt (DW.lt b hb)
 have hwC:w.heap.size≤W.heap.size:=oW.size
 clear l1 l2 hst c3 c3a cw cwa BW DW oW mh okh
 generalize (W.alloc (.cells (secA (s.held p.1)) 161)).drew=W2 at *
 generalize W.heap.size=C at *
 have z1:(0:Int)≤(n:Int):=by omega
 have z2:(n:Int)≤128:=by omega
 go_wp2_with fail
 go_region_law (refine step_copy_sec rfl (.tmp 15) (.tmp 17) rfl C B n 128 128 (by rfl) (by rfl) _ _ (s.held p.1) C2 hhs p hp B2 hn ?_)
 have hms:=mix_size n p.2 (s.held p.1) hp hhs
 have O3:Only F w (W2.drew.setRow C (secA (mix n p.2 (s.held p.1)))):=O2.drew.setRow (.inr hwC) _
 have D3:=D2.far (G:=fun b=>b=C) (((Only.refl (fun b=>b=C) W2).drew).setRow (g:=C) (.inl rfl) (secA (mix n p.2 (s.held p.1)))) hFC
 have B3:Blk (W2.drew.setRow C (secA (mix n p.2 (s.held p.1)))) B 163 (wrA p):=(setRow_other _ _ _ _ hBC).trans B2
 have C3:Blk (W2.drew.setRow C (secA (mix n p.2 (s.held p.1)))) C 161 (secA (mix n p.2 (s.held p.1))):=setRow_heap _ _ _ _ _ _ C2
 clear O2 D2 B2 C2 z1 z2
 generalize W2.drew.setRow C (secA (mix n p.2 (s.held p.1)))=W3 at *
 have hdo:s.did (do1 s.held p n)=s.did (fun i=>if i=p.1 then mix n p.2 (s.held p.1) else s.held i):=by
  unfold do1
  congr 1
  funext j
  split
  ·rename_i e; rw [e]
  ·rfl
 generalize mix n p.2 (s.held p.1)=m at *
 have c3:=D3.c3
 have cw:W3.cell? ⟨B,0,none⟩=some (.int .i64 p.1):=B3.cell 0
 have rg:W3.drew.rangeAt C 0 (secL m):=Blk.range (w:=W3.drew) C3 0 _ (fun j v hv=>by rw [Nat.zero_add]; simpa [secA] using hv)
 have HDO:=Lib.hid hdo
 clear hdo
 go_wp2_with fail
 refine wp_region_still_tail 7 (by kernel_rfl) (by kernel_rfl) ?_
 simp only [List.take_succ_cons,List.take_zero,List.drop_succ_cons,List.drop_zero]
 change wpStill _ _ W3.drew (fun a'=>wpList _ _ _ _ a' W3.drew) _ _
 repeat (first|(with_reducible refine still_load_sec rfl (.tmp 6) rfl C 0 rfl m hms rg ?_)|still_step)
 refine wpStill_nil ?_
 obtain ⟨fh,mh,okh⟩:=D3.held
 refine wpList_put rfl (.tmp 22) (.tmp 24) (.tmp 25) 148 rfl h p.1 (secV m) rfl rfl rfl mh.drew Tryz.underlying148 Tryz.underlying3 ?_
 intro W4 mh4 g4
 go_wp2
 go_end0
 have o4:Only (fun i=>i=h) W3 W4:=((Only.refl (fun i=>i=h) W3).drew).grown g4 (fun k hk=>by injection hk with hk; exact .inl hk.symm)
 have hs:∀ i,i<W3.heap.size→i≠h→W4.heap[i]? = W3.heap[i]?:=fun i hi hne=>o4.block i hi hne
 refine ⟨rfl,?_,O3.trans o4 (fun i e=>.inl (by rw [e]; exact D3.fh))⟩
 rw [HDO.out]
 refine ⟨D3.fd,D3.fh,D3.fl,D3.fv,D3.hl,(hs d D3.blk.lt (Ne.symm D3.dh)).trans D3.blk,⟨_,mh4,okh.put p.1 m⟩,?_,?_,fun b hb=>Nat.lt_of_lt_of_le (D3.lt b hb) o4.size,?_⟩
 ·obtain ⟨f,m1,m2⟩:=D3.last
  exact ⟨f,m1.same (hs l m1.lt (Ne.symm D3.hl)),m2⟩
 ·exact own_same D3.own (fun g hg=>hs g (D3.lt g (D3.fv g hg)) (fun e=>D3.hv (by rw [hg,e])))
 ·refine D3.good.did (fun i=>?_)
  show (if i=p.1 then m else s.held i).size=128
  split
  ·exact hms
  ·exact D3.good.held i
open Go.RowKit Go.MapKept Go.Lib
set_option linter.unusedVariables false
theorem write_dead {w:World} {d:Nat} {F:Nat→Prop} {s:St} (D:DiskAt w d F s) (i:Int) (x:ByteArray) (hi:s.has i) (hx:x.size=128) (hd:s.dead) :
 Calls Tryz.prog 32 #[.pointer (some ⟨d,0,none⟩),.int .i64 i,.string x] w fun e w'=>e=.returned (.int .i64 9)∧w=w':=by
 have hb:((x.size:Int) != 128)=false:=by rw [hx]; rfl
 have HX:=Lib.hid hx
 clear hx
 go_enter Tryz.func32,Tryz.ntmps32
 go_wp2_with fail
 refine (has_yes D i hi).mono ?_
 rintro e w' ⟨rfl,rfl⟩
 go_wp2_with fail
 refine (usedUp_yes D hd).mono ?_
 rintro e w' ⟨rfl,rfl⟩
 go_wp2_with fail
 go_ret
 exact ⟨rfl,rfl⟩
theorem built_wr (i:Int):(Tryz.prog.built 163 [(0,.int .i64 i)])=some (wrA (i,zeroS)):=by kernel_rfl
theorem build_wr {ops:Array Oper} {rest:List Oper} {o:Oper} {a:Act} {w:World} {Q:Exit→Act→World→Prop} (hg:o.guard=none) (x:Operand) (ho:o.op=.build 163 #[(0,x)]) (i:Int) (hx:a.eval x=.int .i64 i)
 (h:wpList Tryz.prog ops Q rest (a.put o.dst (.agg (wrA (i,zeroS)))) w):wpList Tryz.prog ops Q (o :: rest) a w:=by
 have e:Tryz.prog.built 163 ((#[(0,x)]:Array (Nat × Operand)).map fun (i,x)=>(i,a.eval x)).toList=some (wrA (i,zeroS)):=by
  simp only [List.map_toArray,List.map_cons,List.map_nil,hx]
  exact built_wr i
 refine wpList_build hg _ _ ho (by rw [e]; rfl) ?_
 rw [e]
 exact h
theorem run_copy_str (w:World) (ty:TypeId) (B c2:Nat) (t:TypeId) (i:Int) (x y:ByteArray) (hB:Blk w B t (wrA (i,y))) (hy:y.size=128) (hx:x.size=128) :
 (Builtin.copy_ #[115,9] ty #[.slice (some ⟨B,1,none⟩) 128 c2,.string x]).run Tryz.prog w=.ok (goInt x.size) (w.setRow B (wrA (i,x))):=by
 have h1:=run_copy_row_string (P:=Tryz.prog) w 115 9 ty 5 B 1 128 c2 x (wrA (i,y)) t Tryz.underlying115 (by kernel_rfl) hB (by omega) (by rw [wrA_size]; simp only [hy]; omega)
 have e:((wrA (i,y)).toList.take 1++byteCells x.data.toList++(wrA (i,y)).toList.drop (1+x.size)).toArray=wrA (i,x):=by
  have hl:(wrL (i,y)).length=129:=by rw [wrL_len,hy]
  have:(wrA (i,y)).toList=wrL (i,y):=rfl
  rw [this,List.drop_eq_nil_of_le (by omega),List.append_nil]
  rfl
 rw [e] at h1
 exact h1
theorem copy_str {ops:Array Oper} {rest:List Oper} {o:Oper} {a:Act} {w:World} {Q:Exit→Act→World→Prop} (hg:o.guard=none) (dd ss:Operand)
 (ho:o.op=.call { callee:=.builtin .copy,args:=#[dd,ss],argTypes:=#[115,9] }) (B c2:Nat) (hd:a.eval dd=.slice (some ⟨B,1,none⟩) 128 c2) (x:ByteArray) (hs:a.eval ss=.string x)
 (t:TypeId) (i:Int) (y:ByteArray) (hB:Blk w B t (wrA (i,y))) (hy:y.size=128) (hx:x.size=128)
 (h:wpList Tryz.prog ops Q rest (a.put o.dst (goInt x.size)) (w.setRow B (wrA (i,x)))):wpList Tryz.prog ops Q (o :: rest) a w:=by
 refine wpList_plain hg fun K' hK'=>?_
 have hrun:=run_copy_str w o.type B c2 t i x y hB hy hx
 unfold Oper.wp
 simp only [execOp,ho,resolve,invoke,builtin,Sem.run_bind,Sem.run_pure,Result.andThen_ok,List.map_toArray,List.map_cons,List.map_nil,hd,hs,hrun]
 exact hK' _ _ h
theorem fold_set:∀ (l:List Value) (k:Nat) (cs:Array Value),k+l.length=cs.size →
 (l.zipIdx k).foldl (fun cs (p:Value × Nat)=>cs.setIfInBounds (0+p.2) p.1) cs=(cs.toList.take k++l).toArray
 | [],k,cs,h=>by
   simp only [List.zipIdx_nil,List.foldl_nil,List.append_nil]
   rw [List.take_of_length_le (by simp only [Array.length_toList]; simp at h; omega)]
 | v :: r,k,cs,h=>by
   rw [List.zipIdx_cons,List.foldl_cons,fold_set r (k+1) _ (by simp at h ⊢; omega)]
   congr 1
   rw [Nat.zero_add,Array.toList_setIfInBounds]
   have hk:k<cs.toList.length:=by simp at h ⊢; omega
   rw [List.take_succ_eq_append_getElem (by simpa using hk)]
   simp [List.take_set_of_le]
theorem run_one_wr (w:World) (p:Int × ByteArray) (hp:p.2.size=128) :
 (Instr.buildSlice 149 1 #[(0,.agg (wrA p))]).run Tryz.prog w=.ok (.slice (some ⟨w.heap.size,0,none⟩) 1 1) (w.alloc (.cells (wrA p) 163)):=by
 obtain ⟨hz,hs⟩:=zero_wr
 have hsz:(sizeOf 163).run Tryz.prog w=.ok 129 w:=by
  cases hq:Tryz.prog.info? 163 with
  | none=>simp [hq] at hs
  | some i =>
    have:i.size=129:=by simpa [hq] using hs
    simp [sizeOf,typeInfo,hq,this]
 have hw:=wrA_size p
 rw [hp] at hw
 have hf:∀ (Z:Array Value),Z.size=129→Instr.fill (fun i=>some (i*129,129)) Z [(0,.agg (wrA p))]=some (wrA p):=by
  intro Z hZ
  have e:(wrA p).zipIdx.foldl (fun cs (q:Value × Nat)=>cs.setIfInBounds (0+q.2) q.1) Z=wrA p:=by
   rw [← Array.foldl_toList,Array.toList_zipIdx]
   exact (fold_set (wrL p) 0 Z (by rw [Nat.zero_add,wrL_len,hp,hZ])).trans (by simp [wrA])
  have hc:(Value.agg (wrA p)).cells=wrA p:=rfl
  rw [Instr.fill]
  simp only [hc,hw,hZ,Nat.zero_mul,e,Instr.fill]
  rfl
 have h1:=hf ((Array.range (1*129)).map ((wrA (0,zeroS))[· % (wrA (0,zeroS)).size]!)) (by simp)
 have hc0:(Value.agg (wrA (0,zeroS))).cells=wrA (0,zeroS):=rfl
 unfold Instr.buildSlice
 simp only [Sem.run_bind,run_underlying Tryz.underlying149,Result.andThen_ok,hsz]
 simp only [show ¬ (1*129 > 2 ^ 24) by omega,show ¬ (1*129=0) by omega,if_false,Sem.run_bind,Sem.run_pure,Result.andThen_ok,hz,hc0,h1]
 simp [newRow]
section
variable {P:Program} {ops:Array Oper} {o:Oper} {a:Act} {w w' : World} {K:Act→World→Prop} {Q:Exit→Act→World→Prop} {E:Prop}
theorem step_run (hgd:o.guard=none) (v:Value) (hrun:(execOp a.eval o).run P w=.ok (.value v) w') (h:K (a.put o.dst v) w') :
 if Region.wanted o (yielded ops a.tmps)=true then Oper.wp P o a w K Q else E:=by
 have hw:Region.wanted o (yielded ops a.tmps)=true:=by simp [Region.wanted,hgd]
 rw [if_pos hw]
 unfold Oper.wp
 rw [hrun]
 exact h
end
section
variable {ops:Array Oper} {o:Oper} {a:Act} {w w' : World} {K:Act→World→Prop} {Q:Exit→Act→World→Prop} {E:Prop}
theorem step_load_wr (hgd:o.guard=none) (x:Operand) (ho:o.op=.load 163 x) (b f:Nat) (hx:a.eval x=.pointer (some ⟨b,f,none⟩)) (p:Int × ByteArray) (hp:p.2.size=128) (hr:w.rangeAt b f (wrL p))
 (h:K (a.put o.dst (.agg (wrA p))) w):if Region.wanted o (yielded ops a.tmps)=true then Oper.wp Tryz.prog o a w K Q else E :=
 step_run hgd _ (by
  have:=run_loadVar_mid (P:=Tryz.prog) w b f 163 (wrL p) _ hr Tryz.underlying163 rfl (by rw [wrL_len,hp]; exact zero_wr.2)
  unfold execOp
  simp only [ho,hx,Instr.loadAt,Instr.sureAddr,Sem.run_bind,Sem.run_pure,Result.andThen_ok,this]
  rfl) h
theorem step_one_wr (hgd:o.guard=none) (x:Operand) (ho:o.op=.buildSlice 149 1 #[(0,x)]) (p:Int × ByteArray) (hx:a.eval x=.agg (wrA p)) (hp:p.2.size=128)
 (h:K (a.put o.dst (.slice (some ⟨w.heap.size,0,none⟩) 1 1)) (w.alloc (.cells (wrA p) 163))):if Region.wanted o (yielded ops a.tmps)=true then Oper.wp Tryz.prog o a w K Q else E :=
 step_run hgd _ (by
  have:=run_one_wr w p hp
  unfold execOp
  simp only [ho,List.map_toArray,List.map_cons,List.map_nil,hx,Sem.run_bind,Sem.run_pure,Result.andThen_ok,this]) h
theorem step_append (hgd:o.guard=none) (x y:Operand) (t:TypeId) (ho:o.op=.call { callee:=.builtin .append,args:=#[x,y],argTypes:=#[t,t] }) (u v r:Value) (hx:a.eval x=u) (hy:a.eval y=v)
 (hrun:(Builtin.append_ #[t,t] o.type #[u,v]).run Tryz.prog w=.ok r w')
 (h:K (a.put o.dst r) w'):if Region.wanted o (yielded ops a.tmps)=true then Oper.wp Tryz.prog o a w K Q else E:=by
 have hw:Region.wanted o (yielded ops a.tmps)=true:=by simp [Region.wanted,hgd]
 rw [if_pos hw]
 unfold Oper.wp execOp
 simp only [ho,resolve,invoke,builtin,Sem.run_bind,Sem.run_pure,Result.andThen_ok,List.map_toArray,List.map_cons,List.map_nil,hx,hy,hrun]
 exact h
end
set_option maxHeartbeats 1000000 in
theorem write_yes {w:World} {d:Nat} {F:Nat→Prop} {s:St} (D:DiskAt w d F s) (i:Int) (x:ByteArray) (hi:s.has i) (hx:x.size=128) (hd:¬ s.dead) (hpl:s.pend.length<1048576) :
 Calls Tryz.prog 32 #[.pointer (some ⟨d,0,none⟩),.int .i64 i,.string x] w fun e w'=>e=.returned (.int .i64 0)∧(∃ F',DiskAt w' d F' (s.write i x)∧Grew w F F')∧Only F w w':=by
 have hv:=zero_wr.1
 have hb:((x.size:Int) != 128)=false:=by rw [hx]; rfl
 have HX:=Lib.hid hx
 clear hx
 go_enter Tryz.func32,Tryz.ntmps32
 go_wp2_with fail
 refine (has_yes D i hi).mono ?_
 rintro e w' ⟨rfl,rfl⟩
 go_wp2_with fail
 refine (usedUp_no D hd).mono ?_
 rintro e w' ⟨rfl,rfl⟩
 go_wp2_with fail
 refine (use_any D hd).mono ?_
 rintro e w1 ⟨rfl,D1,O1⟩
 have B0:=Blk.new w1 163 (wrA (0,zeroS))
 have B1:=Blk.new w1 163 (wrA (i,zeroS))
 go_wp2_with (first
  | (with_reducible refine build_wr rfl (.tmp 26) rfl i rfl ?_)
  | (with_reducible refine store_wr rfl (.tmp 7) (.tmp 27) rfl w1.heap.size (i,zeroS) rfl rfl 163 (0,zeroS) B0 zeroS_size zeroS_size ?_; rw [World.setRow_alloc_new])
  | (with_reducible refine copy_str rfl (.tmp 29) (.tmp 30) rfl w1.heap.size 128 rfl x rfl 163 i zeroS B1 zeroS_size HX.out ?_; rw [World.setRow_alloc_new]))
 obtain ⟨h,l,v,D2⟩:=D1.alloc (.cells (wrA (i,x)) 163)
 have BB:=Blk.new w1 163 (wrA (i,x))
 have O2:Only F w (w1.alloc (.cells (wrA (i,x)) 163)):=O1.alloc _
 have hBF:∀ b,F b→b<w1.heap.size:=D1.lt
 have hwB:w.heap.size≤w1.heap.size:=O1.size
 clear B0 B1 D1 O1
 generalize w1.alloc (.cells (wrA (i,x)) 163)=W at *
 generalize w1.heap.size=B at *
 obtain ⟨A,c,rfl⟩:=own_slice D2.own
 have c4:=D2.c4
 have c5:=D2.c5
 obtain ⟨fl,ml,okl⟩:=D2.last
 refine wp_region_still_tail 10 (by kernel_rfl) (by kernel_rfl) ?_
 simp only [List.take_succ_cons,List.take_zero,List.drop_succ_cons,List.drop_zero]
 change wpStill _ _ W.drew (fun a'=>wpList _ _ _ _ a' W.drew) _ _
 repeat still_step
 refine wpStill_nil ?_
 refine wpList_put rfl (.tmp 35) (.tmp 36) (.tmp 41) 150 rfl l i (.int .i64 (s.use.pend.length:Int)) rfl rfl rfl ml.drew Tryz.underlying150 Tryz.underlying3 ?_
 intro W3 ml3 g3
 have o3:Only (fun i=>i=l) W W3:=((Only.refl (fun i=>i=l) W).drew).grown g3 (fun k hk=>by injection hk with hk; exact .inl hk.symm)
 have hs3:∀ i,i<W.heap.size→i≠l→W3.heap[i]? = W.heap[i]?:=fun i hi hne=>o3.block i hi hne
 have O3:Only F w W3:=O2.trans o3 (fun i e=>.inl (by rw [e]; exact D2.fl))
 have b3:Blk W3 d 152 #[.bool s.use.set,.int .i64 s.use.left,.int .i64 s.use.size,.map (some h),.slice A s.use.pend.length c,.map (some l)]:=(hs3 d D2.blk.lt (Ne.symm D2.dl)).trans D2.blk
 have mh3:∃ f,MapIs W3 h f∧HeldOK f s.use.held:=by
  obtain ⟨f,m1,m2⟩:=D2.held
  exact ⟨f,m1.same (hs3 h m1.lt D2.hl),m2⟩
 have own3:W3.ownsRow 0 163 129 (.slice A s.use.pend.length c) s.use.pend.length (s.use.pend.flatMap wrL) :=
  own_same D2.own (fun g hg=>hs3 g (D2.lt g (D2.fv g hg)) (fun e=>D2.lv (by rw [hg,e])))
 have BB3:Blk W3 B 163 (wrA (i,x)):=(hs3 B BB.lt (fun e=>by have:=hBF l D2.fl; omega)).trans BB
 have hgood:(s.write i x).Good:=D.good.write hd hi HX.out
 go_wp2_with fail
 have rB:W3.drew.rangeAt B 0 (wrL (i,x)):=Blk.range (w:=W3.drew) BB3 0 _ (fun j v hv=>by rw [Nat.zero_add]; simpa [wrA] using hv)
 have c4' : W3.cell? ⟨d,4,none⟩=some (.slice A s.use.pend.length c):=b3.cell 4
 have c4'' : (W3.alloc (.cells (wrA (i,x)) 163)).cell? ⟨d,4,none⟩=some (.slice A s.use.pend.length c):=(b3.alloc _).cell 4
 have hpl' : s.use.pend.length<1048576:=hpl
 have hwi:(Tryz.prog.info? 163).map (fun i=>(i.zero,i.size,i.bytes))=some (some (.agg (wrA (0,zeroS))),129,136):=by kernel_rfl
 obtain ⟨i0,hi0,hz0,hz1,hz2⟩:=info_parts hwi
 obtain ⟨v5,W5,hrun5,own5,g5,_,hat5⟩:=run_append_own_at (P:=Tryz.prog) (W3.alloc (.cells (wrA (i,x)) 163)).drew 0 149 149 163 i0 _ 129 136 Tryz.underlying149 hi0 hz0 hz1 hz2
  (by show (wrA (0,zeroS)).size=129; rw [wrA_size]; rfl) (by omega) (.slice A s.use.pend.length c) s.use.pend.length _ (own3.alloc _) ⟨W3.heap.size,0,none⟩ 1 1 (wrL (i,x)) (by rw [wrL_len,Nat.one_mul]; simp only [HX.out])
  (fun j u hu=>by
   rw [Addr.add_mid,Nat.zero_add]
   have:=(Blk.new W3 163 (wrA (i,x))).cell j
   exact this.trans (by simpa [wrA] using hu))
  (wrL_one _) (by simp only [maxLen]; omega) (by omega) (Nat.zero_le _)
 obtain ⟨A5,n5,rfl⟩:=own_slice own5
 have hWl:d<W3.heap.size:=b3.lt
 have d5:Blk W5 d 152 #[.bool s.use.set,.int .i64 s.use.left,.int .i64 s.use.size,.map (some h),.slice A s.use.pend.length c,.map (some l)]:=Blk.grown (b3.alloc _).drew g5 (fun e=>own_ne (own3) b3 (by decide) e.symm)
 have h5:∃ f,MapIs W5 h f∧HeldOK f s.use.held:=by
  obtain ⟨f,m1,m2⟩:=mh3
  exact ⟨f,(m1.alloc _).drew.grown g5 (fun e=>own_ne_map own3 m1 e.symm),m2⟩
 have l5:=(ml3.alloc (.cells (wrA (i,x)) 163)).drew.grown g5 (fun e=>own_ne_map own3 ml3 e.symm)
 have O5:Only F w W5:=(O3.alloc _).drew.grown g5 (fun k hk=>.inl (D2.fv k hk))
 have hat6:∀ g,(Value.slice A5 (s.use.pend.length+1) n5).ownBlock=some g→F g∨g=W3.heap.size+1:=fun g hg=>by
  rcases hat5 with e|e
  ·rw [e] at hg; exact .inl (D2.fv g hg)
  ·rw [e] at hg; injection hg with hg; right; rw [← hg]; simp
 have c45:=d5.cell 4
 have f45:=d5.frozen 4
 simp only [List.getElem?_toArray,List.getElem?_cons_succ,List.getElem?_cons_zero] at c45
 have FIN:(∃ F',DiskAt (W5.setCell ⟨d,4,none⟩ (.slice A5 (s.use.pend.length+1) n5)) d F' (s.write i x)∧Grew w F F')∧Only F w (W5.setCell ⟨d,4,none⟩ (.slice A5 (s.use.pend.length+1) n5)):=by
  have hne5:(Value.slice A5 (s.use.pend.length+1) n5).ownBlock≠some d:=own_ne own5 d5 (by decide)
  have o6:Only (fun i=>i=d) W5 (W5.setCell ⟨d,4,none⟩ (.slice A5 (s.use.pend.length+1) n5)):=(Only.refl (fun i=>i=d) W5).setCell (p:=⟨d,4,none⟩) (.inl rfl) _
  have hsz5:W3.heap.size+1≤W5.heap.size:=by have:=g5.size; simpa using this
  have hs5:∀ g,(Value.slice A5 (s.use.pend.length+1) n5).ownBlock=some g→g<W5.heap.size:=fun g hg=>(own5.lt g hg).2
  refine ⟨⟨fun b=>F b∨(w.heap.size≤b∧b<W5.heap.size),⟨h,l,.slice A5 (s.use.pend.length+1) n5,?_⟩,fun b hb=>hb.imp id (fun e=>e.1)⟩,O5.setCell (.inl D2.fd) _⟩
  refine ⟨.inl D2.fd,.inl D2.fh,.inl D2.fl,fun g hg=>?_,D2.hl,?_,?_,?_,?_,?_,hgood⟩
  ·rcases hat6 g hg with e|e
   ·exact .inl e
   ·exact .inr ⟨by have:=O3.size; omega,hs5 g hg⟩
  ·exact d5.set_ 4 _
  ·obtain ⟨f,m1,m2⟩:=h5
   exact ⟨f,m1.setCell (p:=⟨d,4,none⟩) (m1.ne_blk d5) _,m2⟩
  ·exact ⟨_,l5.setCell (p:=⟨d,4,none⟩) (l5.ne_blk d5) _,okl.snoc i x⟩
  ·have:((s.write i x).pend.flatMap wrL)=s.use.pend.flatMap wrL++wrL (i,x):=by
    show (s.pend++[(i,x)]).flatMap wrL=_
    rw [List.flatMap_append]
    simp [St.use]
   rw [this,show (s.write i x).pend.length=s.use.pend.length+1 by simp [St.write,St.use]]
   exact own_same own5 (fun g hg=>o6.block g (hs5 g hg) (fun e=>hne5 (by rw [hg,e])))
  ·intro b hb
   have e:(W5.setCell ⟨d,4,none⟩ (.slice A5 (s.use.pend.length+1) n5)).heap.size=W5.heap.size:=by simp [World.setCell]
   rw [e]
   rcases hb with hb|hb
   ·exact Nat.lt_of_lt_of_le (D2.lt b hb) (Nat.le_trans o3.size (by omega))
   ·exact hb.2
 have RB:=Lib.hid rB
 have HR:=Lib.hid hrun5
 have HF:=Lib.hid FIN
 clear BB BB3 rB hrun5 own5 own3 g5 hat5 hat6 h5 l5 O5 FIN d5 hz0 hz1 hz2 hi0 hwi ml3 mh3 ml D2 D O2 O3 o3 hs3 b3 g3 hv
 refine wp_region_any (by kernel_rfl) ?_
 change wpAny _ _ _ _ _ _ _ W3.drew
 refine wpAny_take (i:=0) (v:=.pointer (some ⟨d,0,none⟩)) rfl (by kernel_rfl) (by kernel_rfl) (by kernel_rfl) (fun _ _ _ h=>h) (Or.inl ⟨by rfl,fun w=>by go_simp⟩) ?_
 refine wpAny_take (i:=1) (v:=.pointer (some ⟨d,0,none⟩)) rfl (by kernel_rfl) (by kernel_rfl) (by kernel_rfl) (fun _ _ _ h=>h) (Or.inl ⟨by rfl,fun w=>by go_simp⟩) ?_
 refine wpAny_take (i:=2) (v:=.pointer (some ⟨d,0,none⟩)) rfl (by kernel_rfl) (by kernel_rfl) (by kernel_rfl) (fun _ _ _ h=>h) (Or.inl ⟨by rfl,fun w=>by go_simp⟩) ?_
 refine wpAny_take (i:=3) (v:=.pointer (some ⟨d,4,none⟩)) rfl (by kernel_rfl) (by kernel_rfl) (by kernel_rfl) (fun _ _ _ h=>h) (Or.inl ⟨by rfl,fun w=>by go_simp⟩) ?_
 refine wpAny_ready (rs:=[4,5]) (by kernel_rfl) (by simp) ?_
 refine AllReady.cons rfl (fun K hK=>?_) (AllReady.cons rfl (fun K hK=>?_) AllReady.nil)
 ·go_simp
  refine hK _ _ ?_
  clear hK K
  refine wpAny_ready (rs:=[5]) (by kernel_rfl) (by simp) ?_
  refine AllReady.cons rfl (fun K hK=>?_) AllReady.nil
  refine step_load_wr rfl (.tmp 7) rfl B 0 rfl (i,x) HX.out RB.out ?_
  go_simp
  refine hK _ _ ?_
  clear hK K
  refine wpAny_ready (rs:=[6]) (by kernel_rfl) (by simp) ?_
  refine AllReady.cons rfl (fun K hK=>?_) AllReady.nil
  refine step_one_wr rfl (.tmp 47) rfl (i,x) rfl HX.out ?_
  go_simp
  refine hK _ _ ?_
  clear hK K
  refine wpAny_ready (rs:=[7]) (by kernel_rfl) (by simp) ?_
  refine AllReady.cons rfl (fun K hK=>?_) AllReady.nil
  refine step_append rfl (.tmp 46) (.tmp 48) 149 rfl _ _ _ rfl rfl HR.out ?_
  go_simp
  refine hK _ _ ?_
  clear hK K
  refine wpAny_ready (rs:=[8]) (by kernel_rfl) (by simp) ?_
  refine AllReady.cons rfl (fun K hK=>?_) AllReady.nil
  go_simp
  refine hK _ _ ?_
  clear hK K
  refine wpAny_ready (rs:=[9]) (by kernel_rfl) (by simp) ?_
  refine AllReady.cons rfl (fun K hK=>?_) AllReady.nil
  go_simp
  refine hK _ _ ?_
  clear hK K
  refine wpAny_ready (rs:=[10]) (by kernel_rfl) (by simp) ?_
  refine AllReady.cons rfl (fun K hK=>?_) AllReady.nil
  go_simp
  refine hK _ _ ?_
  clear hK K
  refine wpAny_done (by kernel_rfl) ?_ _
  go_wp2
  go_ret
  exact ⟨rfl,HF.out⟩
 ·refine step_load_wr rfl (.tmp 7) rfl B 0 rfl (i,x) HX.out RB.out ?_
  go_simp
  refine hK _ _ ?_
  clear hK K
  refine wpAny_ready (rs:=[4,6]) (by kernel_rfl) (by simp) ?_
  refine AllReady.cons rfl (fun K hK=>?_) (AllReady.cons rfl (fun K hK=>?_) AllReady.nil)
  ·go_simp
   refine hK _ _ ?_
   clear hK K
   refine wpAny_ready (rs:=[6]) (by kernel_rfl) (by simp) ?_
   refine AllReady.cons rfl (fun K hK=>?_) AllReady.nil
   refine step_one_wr rfl (.tmp 47) rfl (i,x) rfl HX.out ?_
   go_simp
   refine hK _ _ ?_
   clear hK K
   refine wpAny_ready (rs:=[7]) (by kernel_rfl) (by simp) ?_
   refine AllReady.cons rfl (fun K hK=>?_) AllReady.nil
   refine step_append rfl (.tmp 46) (.tmp 48) 149 rfl _ _ _ rfl rfl HR.out ?_
   go_simp
   refine hK _ _ ?_
   clear hK K
   refine wpAny_ready (rs:=[8]) (by kernel_rfl) (by simp) ?_
   refine AllReady.cons rfl (fun K hK=>?_) AllReady.nil
   go_simp
   refine hK _ _ ?_
   clear hK K
   refine wpAny_ready (rs:=[9]) (by kernel_rfl) (by simp) ?_
   refine AllReady.cons rfl (fun K hK=>?_) AllReady.nil
   go_simp
   refine hK _ _ ?_
   clear hK K
   refine wpAny_ready (rs:=[10]) (by kernel_rfl) (by simp) ?_
   refine AllReady.cons rfl (fun K hK=>?_) AllReady.nil
   go_simp
   refine hK _ _ ?_
   clear hK K
   refine wpAny_done (by kernel_rfl) ?_ _
   go_wp2
   go_ret
   exact ⟨rfl,HF.out⟩
  ·refine step_one_wr rfl (.tmp 47) rfl (i,x) rfl HX.out ?_
   go_simp
   refine hK _ _ ?_
   clear hK K
   refine wpAny_ready (rs:=[4]) (by kernel_rfl) (by simp) ?_
   refine AllReady.cons rfl (fun K hK=>?_) AllReady.nil
   go_simp
   refine hK _ _ ?_
   clear hK K
   refine wpAny_ready (rs:=[7]) (by kernel_rfl) (by simp) ?_
   refine AllReady.cons rfl (fun K hK=>?_) AllReady.nil
   refine step_append rfl (.tmp 46) (.tmp 48) 149 rfl _ _ _ rfl rfl HR.out ?_
   go_simp
   refine hK _ _ ?_
   clear hK K
   refine wpAny_ready (rs:=[8]) (by kernel_rfl) (by simp) ?_
   refine AllReady.cons rfl (fun K hK=>?_) AllReady.nil
   go_simp
   refine hK _ _ ?_
   clear hK K
   refine wpAny_ready (rs:=[9]) (by kernel_rfl) (by simp) ?_
   refine AllReady.cons rfl (fun K hK=>?_) AllReady.nil
   go_simp
   refine hK _ _ ?_
   clear hK K
   refine wpAny_ready (rs:=[10]) (by kernel_rfl) (by simp) ?_
   refine AllReady.cons rfl (fun K hK=>?_) AllReady.nil
   go_simp
   refine hK _ _ ?_
   clear hK K
   refine wpAny_done (by kernel_rfl) ?_ _
   go_wp2
   go_ret
   exact ⟨rfl,HF.out⟩
open Go.RowKit Go.MapKept Go.Lib
set_option linter.unusedVariables false
theorem flush_dead {w:World} {d:Nat} {F:Nat→Prop} {s:St} (D:DiskAt w d F s) (hd:s.dead) :
 Calls Tryz.prog 36 #[.pointer (some ⟨d,0,none⟩)] w fun e w'=>e=.returned (.int .i64 9)∧w=w':=by
 go_enter Tryz.func36,Tryz.ntmps36
 go_wp2_with fail
 refine (usedUp_yes D hd).mono ?_
 rintro e w' ⟨rfl,rfl⟩
 go_wp2_with fail
 go_ret
 exact ⟨rfl,rfl⟩
theorem crashTo_step {keep:Nat→Bool} {torn:Int} {n:Nat} {l:List (Int × ByteArray)} {h:Int→ByteArray} {k:Nat} {p:Int × ByteArray} (hk:l[k]? = some p) :
 crashTo keep torn n l h (k+1)=if keep k then do1 (crashTo keep torn n l h k) p 128 else if (k:Int)=torn then do1 (crashTo keep torn n l h k) p n else crashTo keep torn n l h k:=by
 simp only [crashTo,hk]
theorem do_all {w:World} {d h l:Nat} {v:Value} {F:Nat→Prop} {s:St} (D:DiskIn w d h l v F s) (p:Int × ByteArray) (hp:p.2.size=128) (hpi:s.has p.1) :
 Calls Tryz.prog 83 #[.pointer (some ⟨d,0,none⟩),.agg (wrA p),.int .i64 128] w fun e w'=>e=.returned (.tuple #[])∧DiskIn w' d h l v F (s.did (do1 s.held p 128))∧Only F w w' :=
 do_any D p hp hpi 128 (Nat.le_refl _)
set_option maxHeartbeats 1000000 in
theorem flush_yes {w:World} {d:Nat} {F:Nat→Prop} {s:St} (D:DiskAt w d F s) (hd:¬ s.dead) (hpl:s.pend.length<1048576) :
 Calls Tryz.prog 36 #[.pointer (some ⟨d,0,none⟩)] w fun e w'=>e=.returned (.int .i64 0)∧(∃ F',DiskAt w' d F' s.flush∧Grew w F F')∧Only F w w':=by
 have hv:=zero_wr.1
 go_enter Tryz.func36,Tryz.ntmps36
 go_wp2_with fail
 refine (usedUp_no D hd).mono ?_
 rintro e w' ⟨rfl,rfl⟩
 go_wp2_with fail
 refine (use_any D hd).mono ?_
 rintro e w1 ⟨rfl,D1,O1⟩
 obtain ⟨h,l,v,D2⟩:=D1
 obtain ⟨A,c,rfl⟩:=own_slice D2.own
 have c4:=D2.c4
 have hpl' : s.use.pend.length<1048576:=hpl
 go_wp2_with fail
 go_loopg [21] s.use.pend.length (fun g t wx=>∃ k:Nat,k+g=s.use.pend.length∧t=.int .i64 k∧DiskIn wx d h l (.slice A s.use.pend.length c) F (s.use.did (crashTo (fun _=>true) 0 0 s.use.pend s.use.held k))∧Only F w wx)
 case atStart=>exact ⟨0,by omega,rfl,D2,O1⟩
 case round =>
  obtain ⟨k,hk,rfl,D3,O3⟩:=hrel
  cases gk with
  | zero =>
    obtain rfl:k=s.use.pend.length:=by omega
    go_wp2_with fail
    refine (forget_any ⟨_,_,_,D3⟩).mono ?_
    rintro e w4 ⟨rfl,⟨F',D4,G4⟩,O4⟩
    go_wp2_with fail
    go_ret
    exact ⟨rfl,⟨F',D4,fun b hb=>(G4 b hb).imp id (fun e=>Nat.le_trans O3.size e)⟩,O3.trans O4 (fun i hi=>.inl hi)⟩
  | succ g =>
    have hlt:k<s.use.pend.length:=by omega
    have hkz:(0:Int)≤(k:Int):=by omega
    have hkz2:(k:Int)<(s.use.pend.length:Int):=by omega
    have e2:s.use.pend[k]? = some s.use.pend[k]:=List.getElem?_eq_getElem hlt
    generalize s.use.pend[k]=p at e2
    have hpg:=D3.good.pend p (List.mem_of_getElem? e2)
    have own3:wr.ownsRow 0 163 129 (.slice A s.use.pend.length c) s.use.pend.length (s.use.pend.flatMap wrL):=D3.own
    obtain ⟨gb,cap,hA,hrg⟩:=own_range own3 (fun p hp=>(D3.good.pend p hp).1) e2
    have hA' : A=some ⟨gb,0,none⟩:=by injection hA
    subst hA'
    have B0:=Blk.new wr 163 (wrA (0,zeroS))
    have B1:=Blk.new wr 163 (wrA p)
    have R1:(wr.alloc (.cells (wrA p) 163)).rangeAt wr.heap.size 0 (wrL p):=B1.range 0 _ (fun j v hv=>by rw [Nat.zero_add]; simpa [wrA] using hv)
    have hst:=crashTo_step (keep:=fun _=>true) (torn:=0) (n:=0) (h:=s.use.held) e2
    have R0:=Lib.hid hrg
    have RR:=Lib.hid R1
    have HST:=Lib.hid hst
    have E2:=Lib.hid e2
    have R3:=World.rangeAt_alloc hrg (.cells (wrA (0,zeroS)) 163)
    clear hrg R1 hst e2 hA own3 R3
    go_wp2_with (first
     | (with_reducible refine load_wr rfl (.tmp 23) rfl gb (k*129) rfl p hpg.1 R0.out ?_)
     | (with_reducible refine store_wr rfl (.tmp 5) (.tmp 24) rfl wr.heap.size p rfl rfl 163 (0,zeroS) B0 hpg.1 zeroS_size ?_; rw [World.setRow_alloc_new])
     | (with_reducible refine load_wr rfl (.tmp 5) rfl wr.heap.size 0 rfl p hpg.1 RR.out ?_))
    refine (do_all (D3.later ((Below.refl _ _).alloc (Nat.le_refl _) _)) p hpg.1 hpg.2).mono ?_
    rintro e w5 ⟨rfl,D5,O5⟩
    have O6:Only F w w5:=(O3.alloc _).trans O5 (fun i hi=>.inl hi)
    have D6:DiskIn w5 d h l (.slice (some ⟨gb,0,none⟩) s.use.pend.length c) F (s.use.did (crashTo (fun _=>true) 0 0 s.use.pend s.use.held (k+1))):=by
     rw [HST.out]; exact D5
    clear D5 O5 D3 B0 B1 D2
    go_wp2_with fail
    go_roundg g
    case measure=>omega
    case rel=>exact ⟨k+1,by omega,by go_num,D6,O6⟩
theorem do_at {w:World} {d h l:Nat} {v:Value} {F:Nat→Prop} {s:St} (D:DiskIn w d h l v F s) (p:Int × ByteArray) (hp:p.2.size=128) (hpi:s.has p.1) (q:Int) (m:Nat) (hq:q=(m:Int)) (hm:m≤128) :
 Calls Tryz.prog 83 #[.pointer (some ⟨d,0,none⟩),.agg (wrA p),.int .i64 q] w fun e w'=>e=.returned (.tuple #[])∧DiskIn w' d h l v F (s.did (do1 s.held p m))∧Only F w w':=by
 subst hq
 exact do_any D p hp hpi m hm
def KeepIs (w:World) (F:Nat→Prop) (A:Option Addr) (n:Nat) (keep:Nat→Bool):Prop :=
 (0<n→∃ b o,A=some ⟨b,o,none⟩∧¬ F b∧∀ j,j<n→w.cell? ⟨b,o+j,none⟩=some (.bool (keep j)))∧∀ j,n≤j→keep j=false
theorem KeepIs.only {w w' : World} {F:Nat→Prop} {A:Option Addr} {n:Nat} {keep:Nat→Bool} (h:KeepIs w F A n keep) (ho:Only F w w'):KeepIs w' F A n keep:=by
 refine ⟨fun hn=>?_,h.2⟩
 obtain ⟨b,o,e,hF,hc⟩:=h.1 hn
 refine ⟨b,o,e,hF,fun j hj=>?_⟩
 have:=hc j hj
 exact (World.cell?_of_block (ho.block b (World.block_lt_of_cell? w _ this) hF)).trans this
def clampN (a:Int):Nat:=if a<0 then 0 else if 128<a then 128 else a.toNat
set_option maxHeartbeats 4000000 in
theorem crash_any {w:World} {d:Nat} {F:Nat→Prop} {s:St} (D:DiskAt w d F s) (A:Option Addr) (n c:Nat) (hn:n≤maxLen) (keep:Nat→Bool) (torn pos:Int) (hk:KeepIs w F A n keep) (hpl:s.pend.length<1048576) :
 Calls Tryz.prog 39 #[.pointer (some ⟨d,0,none⟩),.slice A n c,.int .i64 torn,.int .i64 pos] w fun e w'=>e=.returned (.tuple #[])∧(∃ F',DiskAt w' d F' (s.crash keep torn (clampN pos))∧Grew w F F')∧Only F w w':=by
 have hv:=zero_wr.1
 unfold maxLen at hn
 obtain ⟨h,l,v,D2⟩:=D
 obtain ⟨A2,c2,rfl⟩:=own_slice D2.own
 have c4:=D2.c4
 go_enter Tryz.func39,Tryz.ntmps39
 go_wp2_with fail
 go_loopg [18] s.pend.length (fun g t wx=>∃ k:Nat,k+g=s.pend.length∧t=.int .i64 k∧DiskIn wx d h l (.slice A2 s.pend.length c2) F (s.did (crashTo keep torn (clampN pos) s.pend s.held k))∧Only F w wx)
 case atStart=>exact ⟨0,by omega,rfl,D2,Only.refl _ _⟩
 case round =>
  obtain ⟨k,hkg,rfl,D3,O3⟩:=hrel
  cases gk with
  | zero =>
    obtain rfl:k=s.pend.length:=by omega
    go_wp2_with fail
    refine (forget_any ⟨_,_,_,D3⟩).mono ?_
    rintro e w4 ⟨rfl,⟨F',D4,G4⟩,O4⟩
    obtain ⟨h4,l4,v4,D5⟩:=D4
    have c0:=D5.c0
    have c1:=D5.c1
    have f0:=D5.blk.frozen 0
    have f1:=D5.blk.frozen 1
    have b1:=(D5.blk.set_ 0 (.bool false)).set_ 1 (.int .i64 0)
    have hg6:(s.crash keep torn (clampN pos)).Good:=D2.good.crash _ _ _
    have D6:DiskIn ((w4.setCell ⟨d,0,none⟩ (.bool false)).setCell ⟨d,1,none⟩ (.int .i64 0)) d h4 l4 v4 F' (s.crash keep torn (clampN pos)) :=
     D5.turn (((Only.refl (fun i=>i=d) w4).setCell (p:=⟨d,0,none⟩) (.inl rfl) _).setCell (p:=⟨d,1,none⟩) (.inl rfl) _) b1 rfl rfl hg6
    have O6:Only F w ((w4.setCell ⟨d,0,none⟩ (.bool false)).setCell ⟨d,1,none⟩ (.int .i64 0)):=((O3.trans O4 (fun i hi=>.inl hi)).setCell (.inl D2.fd) _).setCell (.inl D2.fd) _
    have FIN:=Lib.hid (⟨⟨F',⟨_,_,_,D6⟩,fun b hb=>(G4 b hb).imp id (fun e=>Nat.le_trans O3.size e)⟩,O6⟩:(∃ F',DiskAt _ d F' (s.crash keep torn (clampN pos))∧Grew w F F')∧Only F w _)
    clear D5 D6 b1 hg6 O6 O4 G4 D3 D2 O3
    go_wp2_with fail
    go_end0
    exact ⟨rfl,FIN.out⟩
  | succ g =>
    have hlt:k<s.pend.length:=by omega
    have hkz:(0:Int)≤(k:Int):=by omega
    have hkz2:(k:Int)<(s.pend.length:Int):=by omega
    have e2:s.pend[k]? = some s.pend[k]:=List.getElem?_eq_getElem hlt
    generalize s.pend[k]=p at e2
    have hpg:=D3.good.pend p (List.mem_of_getElem? e2)
    have own3:wr.ownsRow 0 163 129 (.slice A2 s.pend.length c2) s.pend.length (s.pend.flatMap wrL):=D3.own
    obtain ⟨gb,cap,hA,hrg⟩:=own_range own3 (fun p hp=>(D3.good.pend p hp).1) e2
    have hA' : A2=some ⟨gb,0,none⟩:=by injection hA
    subst hA'
    have B0:=Blk.new wr 163 (wrA (0,zeroS))
    have B1:=Blk.new wr 163 (wrA p)
    have R1:(wr.alloc (.cells (wrA p) 163)).rangeAt wr.heap.size 0 (wrL p):=B1.range 0 _ (fun j v hv=>by rw [Nat.zero_add]; simpa [wrA] using hv)
    have hst:=crashTo_step (keep:=keep) (torn:=torn) (n:=clampN pos) (h:=s.held) e2
    have hk4:=(hk.only O3).only ((Only.refl F wr).alloc (.cells (wrA p) 163))
    have R0:=Lib.hid hrg
    have RR:=Lib.hid R1
    have HST:=Lib.hid hst
    have E2:=Lib.hid e2
    clear hrg R1 hst e2 hA own3 hk D2 c4
    by_cases hkn:k<n
    ·obtain ⟨kb,ko,rfl,hkF,hkc⟩:=hk4.1 (by omega)
     have hc:=hkc k hkn
     have hkn2:(k:Int)<(n:Int):=by omega
     clear hkc hk4
     cases hkk:keep k
     ·rw [hkk] at hc
      by_cases ht:(k:Int)=torn
      ·have he:(if keep k then do1 (crashTo keep torn (clampN pos) s.pend s.held k) p 128 else if (k:Int)=torn then do1 (crashTo keep torn (clampN pos) s.pend s.held k) p (clampN pos) else crashTo keep torn (clampN pos) s.pend s.held k)=do1 (crashTo keep torn (clampN pos) s.pend s.held k) p (clampN pos):=by rw [hkk,if_pos ht]; rfl
       have HE:=Lib.hid he
       have hbt:((k:Int) == torn)=true:=beq_iff_eq.2 ht
       clear he hkk ht
       by_cases hp0:pos<0
       ·have hcl:clampN pos=0:=by unfold clampN; rw [if_pos hp0]
        have HC:=Lib.hid hcl
        clear hcl
        go_wp2_with (first
         | (with_reducible refine load_wr rfl (.tmp 21) rfl gb (k*129) rfl p hpg.1 R0.out ?_)
         | (with_reducible refine store_wr rfl (.tmp 10) (.tmp 22) rfl wr.heap.size p rfl rfl 163 (0,zeroS) B0 hpg.1 zeroS_size ?_; rw [World.setRow_alloc_new])
         | (with_reducible refine load_wr rfl (.tmp 10) rfl wr.heap.size 0 rfl p hpg.1 RR.out ?_))
        refine (do_at (D3.later ((Below.refl _ _).alloc (Nat.le_refl _) _)) p hpg.1 hpg.2 0 (clampN pos) (by rw [HC.out]; rfl) (by rw [HC.out]; omega)).mono ?_
        rintro e w5 ⟨rfl,D5,O5⟩
        have O6:Only F w w5:=(O3.alloc _).trans O5 (fun i hi=>.inl hi)
        have D6:DiskIn w5 d h l (.slice (some ⟨gb,0,none⟩) s.pend.length c2) F (s.did (crashTo keep torn (clampN pos) s.pend s.held (k+1))):=by
         rw [HST.out,HE.out]; exact D5
        clear D5 O5 D3 B0 B1
        go_wp2_with fail
        go_roundg g
        case measure=>omega
        case rel=>exact ⟨k+1,by omega,by go_num,D6,O6⟩
       ·by_cases hp1:128<pos
        ·have hcl:clampN pos=128:=by unfold clampN; rw [if_neg hp0,if_pos hp1]
         have HC:=Lib.hid hcl
         clear hcl hp0
         have hp0:0≤pos:=by omega
         go_wp2_with (first
          | (with_reducible refine load_wr rfl (.tmp 21) rfl gb (k*129) rfl p hpg.1 R0.out ?_)
          | (with_reducible refine store_wr rfl (.tmp 10) (.tmp 22) rfl wr.heap.size p rfl rfl 163 (0,zeroS) B0 hpg.1 zeroS_size ?_; rw [World.setRow_alloc_new])
          | (with_reducible refine load_wr rfl (.tmp 10) rfl wr.heap.size 0 rfl p hpg.1 RR.out ?_))
         refine (do_at (D3.later ((Below.refl _ _).alloc (Nat.le_refl _) _)) p hpg.1 hpg.2 128 (clampN pos) (by rw [HC.out]; rfl) (by rw [HC.out]; omega)).mono ?_
         rintro e w5 ⟨rfl,D5,O5⟩
         have O6:Only F w w5:=(O3.alloc _).trans O5 (fun i hi=>.inl hi)
         have D6:DiskIn w5 d h l (.slice (some ⟨gb,0,none⟩) s.pend.length c2) F (s.did (crashTo keep torn (clampN pos) s.pend s.held (k+1))):=by
          rw [HST.out,HE.out]; exact D5
         clear D5 O5 D3 B0 B1
         go_wp2_with fail
         go_roundg g
         case measure=>omega
         case rel=>exact ⟨k+1,by omega,by go_num,D6,O6⟩
        ·have hcl:clampN pos=pos.toNat:=by unfold clampN; rw [if_neg hp0,if_neg hp1]
         have hq0:0≤pos:=by omega
         have hq1:pos≤128:=by omega
         have HC:=Lib.hid hcl
         clear hcl hp0 hp1
         go_wp2_with (first
          | (with_reducible refine load_wr rfl (.tmp 21) rfl gb (k*129) rfl p hpg.1 R0.out ?_)
          | (with_reducible refine store_wr rfl (.tmp 10) (.tmp 22) rfl wr.heap.size p rfl rfl 163 (0,zeroS) B0 hpg.1 zeroS_size ?_; rw [World.setRow_alloc_new])
          | (with_reducible refine load_wr rfl (.tmp 10) rfl wr.heap.size 0 rfl p hpg.1 RR.out ?_))
         refine (do_at (D3.later ((Below.refl _ _).alloc (Nat.le_refl _) _)) p hpg.1 hpg.2 pos (clampN pos) (by rw [HC.out]; omega) (by rw [HC.out]; omega)).mono ?_
         rintro e w5 ⟨rfl,D5,O5⟩
         have O6:Only F w w5:=(O3.alloc _).trans O5 (fun i hi=>.inl hi)
         have D6:DiskIn w5 d h l (.slice (some ⟨gb,0,none⟩) s.pend.length c2) F (s.did (crashTo keep torn (clampN pos) s.pend s.held (k+1))):=by
          rw [HST.out,HE.out]; exact D5
         clear D5 O5 D3 B0 B1
         go_wp2_with fail
         go_roundg g
         case measure=>omega
         case rel=>exact ⟨k+1,by omega,by go_num,D6,O6⟩
      ·have he:(if keep k then do1 (crashTo keep torn (clampN pos) s.pend s.held k) p 128 else if (k:Int)=torn then do1 (crashTo keep torn (clampN pos) s.pend s.held k) p (clampN pos) else crashTo keep torn (clampN pos) s.pend s.held k)=crashTo keep torn (clampN pos) s.pend s.held k:=by rw [hkk,if_neg ht]; rfl
       have HE:=Lib.hid he
       have hbt:((k:Int) == torn)=false:=beq_eq_false_iff_ne.2 ht
       clear he hkk ht
       go_wp2_with (first
        | (with_reducible refine load_wr rfl (.tmp 21) rfl gb (k*129) rfl p hpg.1 R0.out ?_)
        | (with_reducible refine store_wr rfl (.tmp 10) (.tmp 22) rfl wr.heap.size p rfl rfl 163 (0,zeroS) B0 hpg.1 zeroS_size ?_; rw [World.setRow_alloc_new])
        | (with_reducible refine load_wr rfl (.tmp 10) rfl wr.heap.size 0 rfl p hpg.1 RR.out ?_))
       have O6:Only F w (wr.alloc (.cells (wrA p) 163)):=O3.alloc _
       have D6:DiskIn (wr.alloc (.cells (wrA p) 163)) d h l (.slice (some ⟨gb,0,none⟩) s.pend.length c2) F (s.did (crashTo keep torn (clampN pos) s.pend s.held (k+1))):=by
        rw [HST.out,HE.out]; exact D3.later ((Below.refl _ _).alloc (Nat.le_refl _) _)
       clear D3 B0 B1
       go_roundg g
       case measure=>omega
       case rel=>exact ⟨k+1,by omega,by go_num,D6,O6⟩
     ·rw [hkk] at hc
      have he:(if keep k then do1 (crashTo keep torn (clampN pos) s.pend s.held k) p 128 else if (k:Int)=torn then do1 (crashTo keep torn (clampN pos) s.pend s.held k) p (clampN pos) else crashTo keep torn (clampN pos) s.pend s.held k)=do1 (crashTo keep torn (clampN pos) s.pend s.held k) p 128:=by rw [hkk]; rfl
      have HE:=Lib.hid he
      clear he hkk
      go_wp2_with (first
       | (with_reducible refine load_wr rfl (.tmp 21) rfl gb (k*129) rfl p hpg.1 R0.out ?_)
       | (with_reducible refine store_wr rfl (.tmp 10) (.tmp 22) rfl wr.heap.size p rfl rfl 163 (0,zeroS) B0 hpg.1 zeroS_size ?_; rw [World.setRow_alloc_new])
       | (with_reducible refine load_wr rfl (.tmp 10) rfl wr.heap.size 0 rfl p hpg.1 RR.out ?_))
      refine (do_at (D3.later ((Below.refl _ _).alloc (Nat.le_refl _) _)) p hpg.1 hpg.2 128 128 (rfl) (Nat.le_refl _)).mono ?_
      rintro e w5 ⟨rfl,D5,O5⟩
      have O6:Only F w w5:=(O3.alloc _).trans O5 (fun i hi=>.inl hi)
      have D6:DiskIn w5 d h l (.slice (some ⟨gb,0,none⟩) s.pend.length c2) F (s.did (crashTo keep torn (clampN pos) s.pend s.held (k+1))):=by
       rw [HST.out,HE.out]; exact D5
      clear D5 O5 D3 B0 B1
      go_wp2_with fail
      go_roundg g
      case measure=>omega
      case rel=>exact ⟨k+1,by omega,by go_num,D6,O6⟩
    ·have hkk:keep k=false:=hk4.2 k (by omega)
     have hkn2:decide (k<n)=false:=by simp; omega
     have hkn3:decide ((k:Int)<(n:Int))=false:=by simp; omega
     clear hk4 hkn
     by_cases ht:(k:Int)=torn
     ·have he:(if keep k then do1 (crashTo keep torn (clampN pos) s.pend s.held k) p 128 else if (k:Int)=torn then do1 (crashTo keep torn (clampN pos) s.pend s.held k) p (clampN pos) else crashTo keep torn (clampN pos) s.pend s.held k)=do1 (crashTo keep torn (clampN pos) s.pend s.held k) p (clampN pos):=by rw [hkk,if_pos ht]; rfl
      have HE:=Lib.hid he
      have hbt:((k:Int) == torn)=true:=beq_iff_eq.2 ht
      clear he hkk ht
      by_cases hp0:pos<0
      ·have hcl:clampN pos=0:=by unfold clampN; rw [if_pos hp0]
       have HC:=Lib.hid hcl
       clear hcl
       go_wp2_with (first
        | (with_reducible refine load_wr rfl (.tmp 21) rfl gb (k*129) rfl p hpg.1 R0.out ?_)
        | (with_reducible refine store_wr rfl (.tmp 10) (.tmp 22) rfl wr.heap.size p rfl rfl 163 (0,zeroS) B0 hpg.1 zeroS_size ?_; rw [World.setRow_alloc_new])
        | (with_reducible refine load_wr rfl (.tmp 10) rfl wr.heap.size 0 rfl p hpg.1 RR.out ?_))
       refine (do_at (D3.later ((Below.refl _ _).alloc (Nat.le_refl _) _)) p hpg.1 hpg.2 0 (clampN pos) (by rw [HC.out]; rfl) (by rw [HC.out]; omega)).mono ?_
       rintro e w5 ⟨rfl,D5,O5⟩
       have O6:Only F w w5:=(O3.alloc _).trans O5 (fun i hi=>.inl hi)
       have D6:DiskIn w5 d h l (.slice (some ⟨gb,0,none⟩) s.pend.length c2) F (s.did (crashTo keep torn (clampN pos) s.pend s.held (k+1))):=by
        rw [HST.out,HE.out]; exact D5
       clear D5 O5 D3 B0 B1
       go_wp2_with fail
       go_roundg g
       case measure=>omega
       case rel=>exact ⟨k+1,by omega,by go_num,D6,O6⟩
      ·by_cases hp1:128<pos
       ·have hcl:clampN pos=128:=by unfold clampN; rw [if_neg hp0,if_pos hp1]
        have HC:=Lib.hid hcl
        clear hcl hp0
        have hp0:0≤pos:=by omega
        go_wp2_with (first
         | (with_reducible refine load_wr rfl (.tmp 21) rfl gb (k*129) rfl p hpg.1 R0.out ?_)
         | (with_reducible refine store_wr rfl (.tmp 10) (.tmp 22) rfl wr.heap.size p rfl rfl 163 (0,zeroS) B0 hpg.1 zeroS_size ?_; rw [World.setRow_alloc_new])
         | (with_reducible refine load_wr rfl (.tmp 10) rfl wr.heap.size 0 rfl p hpg.1 RR.out ?_))
        refine (do_at (D3.later ((Below.refl _ _).alloc (Nat.le_refl _) _)) p hpg.1 hpg.2 128 (clampN pos) (by rw [HC.out]; rfl) (by rw [HC.out]; omega)).mono ?_
        rintro e w5 ⟨rfl,D5,O5⟩
        have O6:Only F w w5:=(O3.alloc _).trans O5 (fun i hi=>.inl hi)
        have D6:DiskIn w5 d h l (.slice (some ⟨gb,0,none⟩) s.pend.length c2) F (s.did (crashTo keep torn (clampN pos) s.pend s.held (k+1))):=by
         rw [HST.out,HE.out]; exact D5
        clear D5 O5 D3 B0 B1
        go_wp2_with fail
        go_roundg g
        case measure=>omega
        case rel=>exact ⟨k+1,by omega,by go_num,D6,O6⟩
       ·have hcl:clampN pos=pos.toNat:=by unfold clampN; rw [if_neg hp0,if_neg hp1]
        have hq0:0≤pos:=by omega
        have hq1:pos≤128:=by omega
        have HC:=Lib.hid hcl
        clear hcl hp0 hp1
        go_wp2_with (first
         | (with_reducible refine load_wr rfl (.tmp 21) rfl gb (k*129) rfl p hpg.1 R0.out ?_)
         | (with_reducible refine store_wr rfl (.tmp 10) (.tmp 22) rfl wr.heap.size p rfl rfl 163 (0,zeroS) B0 hpg.1 zeroS_size ?_; rw [World.setRow_alloc_new])
         | (with_reducible refine load_wr rfl (.tmp 10) rfl wr.heap.size 0 rfl p hpg.1 RR.out ?_))
        refine (do_at (D3.later ((Below.refl _ _).alloc (Nat.le_refl _) _)) p hpg.1 hpg.2 pos (clampN pos) (by rw [HC.out]; omega) (by rw [HC.out]; omega)).mono ?_
        rintro e w5 ⟨rfl,D5,O5⟩
        have O6:Only F w w5:=(O3.alloc _).trans O5 (fun i hi=>.inl hi)
        have D6:DiskIn w5 d h l (.slice (some ⟨gb,0,none⟩) s.pend.length c2) F (s.did (crashTo keep torn (clampN pos) s.pend s.held (k+1))):=by
         rw [HST.out,HE.out]; exact D5
        clear D5 O5 D3 B0 B1
        go_wp2_with fail
        go_roundg g
        case measure=>omega
        case rel=>exact ⟨k+1,by omega,by go_num,D6,O6⟩
     ·have he:(if keep k then do1 (crashTo keep torn (clampN pos) s.pend s.held k) p 128 else if (k:Int)=torn then do1 (crashTo keep torn (clampN pos) s.pend s.held k) p (clampN pos) else crashTo keep torn (clampN pos) s.pend s.held k)=crashTo keep torn (clampN pos) s.pend s.held k:=by rw [hkk,if_neg ht]; rfl
      have HE:=Lib.hid he
      have hbt:((k:Int) == torn)=false:=beq_eq_false_iff_ne.2 ht
      clear he hkk ht
      go_wp2_with (first
       | (with_reducible refine load_wr rfl (.tmp 21) rfl gb (k*129) rfl p hpg.1 R0.out ?_)
       | (with_reducible refine store_wr rfl (.tmp 10) (.tmp 22) rfl wr.heap.size p rfl rfl 163 (0,zeroS) B0 hpg.1 zeroS_size ?_; rw [World.setRow_alloc_new])
       | (with_reducible refine load_wr rfl (.tmp 10) rfl wr.heap.size 0 rfl p hpg.1 RR.out ?_))
      have O6:Only F w (wr.alloc (.cells (wrA p) 163)):=O3.alloc _
      have D6:DiskIn (wr.alloc (.cells (wrA p) 163)) d h l (.slice (some ⟨gb,0,none⟩) s.pend.length c2) F (s.did (crashTo keep torn (clampN pos) s.pend s.held (k+1))):=by
       rw [HST.out,HE.out]; exact D3.later ((Below.refl _ _).alloc (Nat.le_refl _) _)
      clear D3 B0 B1
      go_roundg g
      case measure=>omega
      case rel=>exact ⟨k+1,by omega,by go_num,D6,O6⟩
open Go.RowKit Go.MapKept Go.Lib
set_option linter.unusedVariables false
open Go.RowKit Go.MapKept Go.Lib
set_option linter.unusedVariables false
def Own (W w:World) (d:Nat) (s:St):Prop:=∃ F,DiskAt w d F s∧(∀ b,F b→W.heap.size≤b)∧Below W.heap.size W w
section
variable {W w w' : World} {d:Nat} {s:St}
theorem Own.below (h:Own W w d s):Below W.heap.size W w:=let ⟨_,_,_,hb⟩:=h; hb
theorem Own.later (h:Own W w d s) (hb:Below w.heap.size w w'):Own W w' d s :=
 let ⟨F,hd,hF,hW⟩:=h; ⟨F,hd.later hb,hF,hW.trans (hb.mono hW.size)⟩
theorem Own.alloc (h:Own W w d s) (o:Obj):Own W (w.alloc o) d s:=h.later ((Below.refl _ _).alloc (Nat.le_refl _) o)
theorem Own.drew (h:Own W w d s):Own W w.drew d s:=h.later (Below.refl _ _).drew
theorem Own.good (h:Own W w d s):s.Good:=let ⟨_,hd,_,_⟩:=h; hd.good
end
end Go.Proofs.YtcnohlgigmmefaaGreat.Dk
