/- A part. -/
import Derived.Test.YtdpmjlbkojhooaaGreatQLgA
namespace Go.Proofs.YtdpmjlbkojhooaaGreat.Lg
open Go.RowKit Go.Lib
open Dk (St Only Grew)
set_option linter.unusedVariables false
set_option maxRecDepth 100000
def locI (l:List (Nat × TypeId × Array Value)):Dk.Item :=
 ⟨fun w G=>(∀ x∈l,Tb.Blk w x.1 x.2.1 x.2.2)∧∀ b,G b↔∃ x∈l,x.1=b,fun ⟨h,hG⟩ hs _=>⟨fun x hx=>(hs x.1 ((hG x.1).2 ⟨x,hx,rfl⟩)).trans (h x hx),hG⟩,
  fun ⟨h,hG⟩ b hb=>by obtain ⟨x,hx,e⟩:=(hG b).1 hb; rw [← e]; exact (h x hx).lt⟩
section
variable {W w w' : World} {items:List Dk.Item} {k:Nat} {l l' : List (Nat × TypeId × Array Value)}
theorem loc_new (h:Dk.Sep W w items) (hb:Below w.heap.size w w') (hl:∀ x∈l,Tb.Blk w' x.1 x.2.1 x.2.2) (hn:∀ x∈l,w.heap.size≤x.1):Dk.Sep W w' (items++[locI l]) :=
 h.new (locI l) (G:=fun b=>∃ x∈l,x.1=b) ⟨hl,fun _=>Iff.rfl⟩ (fun b hb'=>by obtain ⟨x,hx,e⟩:=hb'; rw [← e]; exact hn x hx) hb
theorem loc_at (h:Dk.Sep W w items) (hk:items[k]? = some (locI l)):∀ x∈l,Tb.Blk w x.1 x.2.1 x.2.2:=by
 obtain ⟨G,⟨hl,_⟩,_⟩:=h.at_ k hk
 exact hl
theorem loc_put (h:Dk.Sep W w items) (hk:items[k]? = some (locI l)) (ho:Only (fun b=>∃ x∈l,x.1=b) w w') (hl:∀ x∈l',Tb.Blk w' x.1 x.2.1 x.2.2) (hs:∀ x∈l',∃ y∈l,y.1=x.1):Dk.Sep W w' (items.set k (locI l')):=by
 obtain ⟨G,⟨_,hG⟩,_,_,put⟩:=h.at_ k hk
 refine put w' (fun b=>∃ x∈l',x.1=b) _ ⟨hl,fun _=>Iff.rfl⟩ (fun b hb=>?_) (ho.mono fun b hb=>.inl ((hG b).2 hb))
 obtain ⟨x,hx,e⟩:=hb
 obtain ⟨y,hy,e2⟩:=hs x hx
 exact .inl ((hG b).2 ⟨y,hy,e2.trans e⟩)
theorem loc_row (h:Dk.Sep W w items) (hk:items[k]? = some (locI l)) (b:Nat) (hb:∃ x∈l,x.1=b) (cs:Array Value) (hl:∀ x∈l',Tb.Blk (w.setRow b cs) x.1 x.2.1 x.2.2) (hs:∀ x∈l',∃ y∈l,y.1=x.1):Dk.Sep W (w.setRow b cs) (items.set k (locI l')) :=
 loc_put h hk ((Only.refl _ w).setRow (.inl hb) cs) hl hs
theorem loc_drop {a:Dk.Item} (h:Dk.Sep W w (items++[a])):Dk.Sep W w items:=by
 obtain ⟨hW,Gs,hl,hh,hd,hN⟩:=h
 have hlen:Gs.length=items.length+1:=by rw [hl]; simp
 have hg:∀ (i:Nat) (G:Nat→Prop),(Gs.take items.length)[i]? = some G→i<items.length∧Gs[i]? = some G:=fun i G hi=>by
  rw [List.getElem?_take] at hi
  split at hi
  ·exact ⟨by assumption,hi⟩
  ·cases hi
 refine ⟨hW,Gs.take items.length,by rw [List.length_take]; omega,fun i it G hi hG=>?_,fun i j G H hij hi hj=>hd i j G H hij (hg i G hi).2 (hg j H hj).2,fun i G hi=>hN i G (hg i G hi).2⟩
 obtain ⟨hlt,hG'⟩:=hg i G hG
 exact hh i it G (by rw [List.getElem?_append_left hlt]; exact hi) hG'
theorem app_at {a b:Dk.Item} (h:items[k]? = some a):(items++[b])[k]? = some a:=by
 rw [List.getElem?_append_left (List.getElem?_eq_some_iff.1 h).1]; exact h
theorem app_last {b:Dk.Item}:(items++[b])[items.length]? = some b:=by simp
theorem app_set {a b c:Dk.Item} (h:items[k]? = some a):(items++[b]).set k c=items.set k c++[b]:=by
 rw [List.set_append,if_pos (List.getElem?_eq_some_iff.1 h).1]
theorem app_set_last {b c:Dk.Item}:(items++[b]).set items.length c=items++[c]:=by
 rw [List.set_append,if_neg (by omega)]; simp
end
end Go.Proofs.YtdpmjlbkojhooaaGreat.Lg
