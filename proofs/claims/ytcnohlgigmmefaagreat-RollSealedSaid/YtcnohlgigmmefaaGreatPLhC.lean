/- A part. -/
import Derived.Test.YtcnohlgigmmefaaGreatPLhB
import Derived.Test.YtcnohlgigmmefaaGreatPLwD
import Derived.Test.YtcnohlgigmmefaaGreatPNewC
namespace Go.Proofs.YtcnohlgigmmefaaGreat.Lg
open Go.RowKit Go.Lib
open Tb (Tab TIn Sl okP csT lastN nth Fresh)
open Dk (St Only Grew)
set_option linter.unusedVariables false
set_option maxRecDepth 100000
def pan (y:Int):List PanicEntry:=[{ v:=.iface 49 (.int .i64 y),recovered:=false }]
theorem must_t (sg st:Int) (A:Option Addr) (m p:Nat) (B:Option Addr) (k q:Nat) (C:Option Addr) (n r:Nat) (w:World):Calls Tryz.prog 135 #[.agg #[.int .i64 sg,.int .i64 st,.slice A m p,.slice B k q,.slice C n r],.int .i64 0] w fun e w'=>e=.returned (.agg #[.int .i64 sg,.int .i64 st,.slice A m p,.slice B k q,.slice C n r])∧Below w.heap.size w w':=by
 have hvT:=Tryz.zeroValue45
 have B0:Below w.heap.size w ((w.alloc (.cells #[.int .i64 sg,.int .i64 st,.slice A m p,.slice B k q,.slice C n r] 45)).alloc (.cells #[.int .i64 0,.int .i64 0,.slice none 0 0,.slice none 0 0,.slice none 0 0] 45)):=Tb.Ge.trans (Tb.below1 _ _) (Tb.below1 _ _)
 have N2:Tb.Blk ((w.alloc (.cells #[.int .i64 sg,.int .i64 st,.slice A m p,.slice B k q,.slice C n r] 45)).alloc (.cells #[.int .i64 0,.int .i64 0,.slice none 0 0,.slice none 0 0,.slice none 0 0] 45)) w.heap.size 45 (csT sg st A m p B k q C n r):=(Tb.Blk.new w _ _).later (Tb.below1 _ _)
 have N4:Tb.Blk ((w.alloc (.cells #[.int .i64 sg,.int .i64 st,.slice A m p,.slice B k q,.slice C n r] 45)).alloc (.cells #[.int .i64 0,.int .i64 0,.slice none 0 0,.slice none 0 0,.slice none 0 0] 45)) (w.heap.size+1) 45 (csT 0 0 none 0 0 none 0 0 none 0 0):=Tb.Blk.at_ _ _ _ (by simp)
 go_enter Tryz.func135,Tryz.ntmps135
 go_upto_region 1 with fail
 generalize ((w.alloc (.cells #[.int .i64 sg,.int .i64 st,.slice A m p,.slice B k q,.slice C n r] 45)).alloc (.cells #[.int .i64 0,.int .i64 0,.slice none 0 0,.slice none 0 0,.slice none 0 0] 45))=w1 at *
 go_wp2_with (first
  | (with_reducible refine Tb.load_t rfl (.tmp 2) rfl w.heap.size rfl N2 ?_)
  | (with_reducible refine Tb.store_t rfl (.tmp 4) (.tmp 9) rfl (w.heap.size+1) rfl rfl N4 ?_))
 exact bodyPost_ret (Tb.res_t1 rfl _ _ (w.heap.size+1) rfl (N4.row _)) rfl ⟨rfl,Tb.below_row B0 (by omega) _⟩
theorem must_t_no (sg st:Int) (A:Option Addr) (m p:Nat) (B:Option Addr) (k q:Nat) (C:Option Addr) (n r:Nat) (y:Int) (hy:y≠0) (w:World):Calls Tryz.prog 135 #[.agg #[.int .i64 sg,.int .i64 st,.slice A m p,.slice B k q,.slice C n r],.int .i64 y] w fun e w'=>e=.panicked (pan y)∧Below w.heap.size w w':=by
 have hvT:=Tryz.zeroValue45
 have B0:Below w.heap.size w ((w.alloc (.cells #[.int .i64 sg,.int .i64 st,.slice A m p,.slice B k q,.slice C n r] 45)).alloc (.cells #[.int .i64 0,.int .i64 0,.slice none 0 0,.slice none 0 0,.slice none 0 0] 45)):=Tb.Ge.trans (Tb.below1 _ _) (Tb.below1 _ _)
 have q:(y != 0)=true:=by simpa using hy
 clear hy
 go_enter Tryz.func135,Tryz.ntmps135
 go_wp2_with fail
 exact ⟨rfl,rfl,B0⟩
theorem must_s (S:ByteArray) (w:World):Calls Tryz.prog 165 #[.string S,.int .i64 0] w fun e w'=>e=.returned (.string S)∧Below w.heap.size w w':=by
 go_enter Tryz.func165,Tryz.ntmps165
 go_wp2_with fail
 go_ret
 exact ⟨rfl,Below.refl _ _⟩
section
variable {W w:World} {items:List Dk.Item} {k d:Nat} {s:St}
theorem swrite_yes (h:Dk.Sep W w items) (hk:items[k]? = some (Dk.diskI d s)) (i:Int) (x:ByteArray) (hi:s.has i) (hx:x.size=128) (hd:¬ s.dead) (hpl:s.pend.length<1048576) :
 Calls Tryz.prog 168 #[.agg #[.pointer (some ⟨d,0,none⟩),.int .i64 i,.string x]] w fun e w'=>e=.returned (.int .i64 0)∧Dk.Sep W w' (items.set k (Dk.diskI d (s.write i x))):=by
 have N:Tb.Blk (w.alloc (.cells #[.pointer (some ⟨d,0,none⟩),.int .i64 i,.string x] 241)) w.heap.size 241 #[.pointer (some ⟨d,0,none⟩),.int .i64 i,.string x]:=Tb.Blk.new w _ _
 have h1:=h.alloc (.cells #[.pointer (some ⟨d,0,none⟩),.int .i64 i,.string x] 241)
 clear h
 go_enter Tryz.func168,Tryz.ntmps168
 go_upto_region 1 with fail
 generalize w.alloc (.cells #[.pointer (some ⟨d,0,none⟩),.int .i64 i,.string x] 241)=w1 at *
 have c0:w1.cell? ⟨w.heap.size,0,none⟩=some (.pointer (some ⟨d,0,none⟩)):=N.cell 0
 have c1:w1.cell? ⟨w.heap.size,1,none⟩=some (.int .i64 i):=N.cell 1
 have c2:w1.cell? ⟨w.heap.size,2,none⟩=some (.string x):=N.cell 2
 have HC:=Lib.hid (Dk.write_s h1 k hk i x hi hx hd hpl)
 clear N h1 hi hx hd
 go_wp2_with fail
 refine HC.out.mono ?_
 rintro e' w2 ⟨rfl,h2⟩
 have H2:=Lib.hid h2
 clear HC h2
 go_wp2_with fail
 go_ret
 exact ⟨rfl,H2.out⟩
theorem swrite_dead (h:Dk.Sep W w items) (hk:items[k]? = some (Dk.diskI d s)) (i:Int) (x:ByteArray) (hi:s.has i) (hx:x.size=128) (hd:s.dead) :
 Calls Tryz.prog 168 #[.agg #[.pointer (some ⟨d,0,none⟩),.int .i64 i,.string x]] w fun e w'=>e=.returned (.int .i64 9)∧Dk.Sep W w' items:=by
 have N:Tb.Blk (w.alloc (.cells #[.pointer (some ⟨d,0,none⟩),.int .i64 i,.string x] 241)) w.heap.size 241 #[.pointer (some ⟨d,0,none⟩),.int .i64 i,.string x]:=Tb.Blk.new w _ _
 have h1:=h.alloc (.cells #[.pointer (some ⟨d,0,none⟩),.int .i64 i,.string x] 241)
 clear h
 go_enter Tryz.func168,Tryz.ntmps168
 go_upto_region 1 with fail
 generalize w.alloc (.cells #[.pointer (some ⟨d,0,none⟩),.int .i64 i,.string x] 241)=w1 at *
 have c0:w1.cell? ⟨w.heap.size,0,none⟩=some (.pointer (some ⟨d,0,none⟩)):=N.cell 0
 have c1:w1.cell? ⟨w.heap.size,1,none⟩=some (.int .i64 i):=N.cell 1
 have c2:w1.cell? ⟨w.heap.size,2,none⟩=some (.string x):=N.cell 2
 have HC:Hid (Calls Tryz.prog 32 #[.pointer (some ⟨d,0,none⟩),.int .i64 i,.string x] w1 fun e w'=>e=.returned (.int .i64 9)∧w1=w'):=Lib.hid (by
  obtain ⟨G,D,_⟩:=h1.at_ k hk
  exact Dk.write_dead D i x hi hx hd)
 have H1:=Lib.hid h1
 clear N h1 hi hx hd
 go_wp2_with fail
 refine HC.out.mono ?_
 rintro e' w2 ⟨rfl,rfl⟩
 clear HC
 go_wp2_with fail
 go_ret
 exact ⟨rfl,H1.out⟩
theorem do_write_yes (h:Dk.Sep W w items) (hk:items[k]? = some (Dk.diskI d s)) (i:Int) (x:ByteArray) (hi:s.has i) (hx:x.size=128) (hd:¬ s.dead) (hpl:s.pend.length<1048576) :
 Calls Tryz.prog 167 #[.func (.func 168) #[.agg #[.pointer (some ⟨d,0,none⟩),.int .i64 i,.string x]] #[]] w fun e w'=>e=.returned (.tuple #[])∧Dk.Sep W w' (items.set k (Dk.diskI d (s.write i x))):=by
 have HC:=Lib.hid (swrite_yes h hk i x hi hx hd hpl)
 clear h hi hx hd
 go_enter Tryz.func167,Tryz.ntmps167
 go_wp2_with fail
 refine HC.out.mono ?_
 rintro e' w2 ⟨rfl,h2⟩
 have H2:=Lib.hid h2
 clear HC h2
 go_wp2_with fail
 go_end0
 exact ⟨rfl,H2.out⟩
theorem do_write_dead (h:Dk.Sep W w items) (hk:items[k]? = some (Dk.diskI d s)) (i:Int) (x:ByteArray) (hi:s.has i) (hx:x.size=128) (hd:s.dead) :
 Calls Tryz.prog 167 #[.func (.func 168) #[.agg #[.pointer (some ⟨d,0,none⟩),.int .i64 i,.string x]] #[]] w fun e w'=>e=.panicked (pan 9)∧Dk.Sep W w' items:=by
 have HC:=Lib.hid (swrite_dead h hk i x hi hx hd)
 clear h hi hx hd
 go_enter Tryz.func167,Tryz.ntmps167
 go_wp2_with fail
 refine HC.out.mono ?_
 rintro e' w2 ⟨rfl,h2⟩
 have H2:=Lib.hid h2
 clear HC h2
 go_wp2_with fail
 exact ⟨rfl,rfl,H2.out⟩
theorem do_flush_yes (h:Dk.Sep W w items) (hk:items[k]? = some (Dk.diskI d s)) (hd:¬ s.dead) (hpl:s.pend.length<1048576) :
 Calls Tryz.prog 167 #[.func (.func 36) #[.pointer (some ⟨d,0,none⟩)] #[]] w fun e w'=>e=.returned (.tuple #[])∧Dk.Sep W w' (items.set k (Dk.diskI d s.flush)):=by
 have HC:=Lib.hid (Dk.flush_s h k hk hd hpl)
 clear h hd
 go_enter Tryz.func167,Tryz.ntmps167
 go_wp2_with fail
 refine HC.out.mono ?_
 rintro e' w2 ⟨rfl,h2⟩
 have H2:=Lib.hid h2
 clear HC h2
 go_wp2_with fail
 go_end0
 exact ⟨rfl,H2.out⟩
theorem do_flush_dead (h:Dk.Sep W w items) (hk:items[k]? = some (Dk.diskI d s)) (hd:s.dead) :
 Calls Tryz.prog 167 #[.func (.func 36) #[.pointer (some ⟨d,0,none⟩)] #[]] w fun e w'=>e=.panicked (pan 9)∧Dk.Sep W w' items:=by
 have HC:Hid (Calls Tryz.prog 36 #[.pointer (some ⟨d,0,none⟩)] w fun e w'=>e=.returned (.int .i64 9)∧w=w'):=Lib.hid (by
  obtain ⟨G,D,_⟩:=h.at_ k hk
  exact Dk.flush_dead D hd)
 have H1:=Lib.hid h
 clear h hd
 go_enter Tryz.func167,Tryz.ntmps167
 go_wp2_with fail
 refine HC.out.mono ?_
 rintro e' w2 ⟨rfl,rfl⟩
 clear HC
 go_wp2_with fail
 exact ⟨rfl,rfl,H1.out⟩
end
end Go.Proofs.YtcnohlgigmmefaaGreat.Lg
namespace Go.Proofs.YtcnohlgigmmefaaGreat.FreeF
open Go.RowKit Free
set_option linter.unusedVariables false
structure C (w:World) (b:Nat) (T:TypeId) (i1 i2:Nat) (f:Bool→Bool→Array Value) (listed:Array Bool) (a:Act) (W:World):Prop where
 only:Dk.Only (fun x=>x=b) w W
 blk:W.heap[b]? = some (.cells (f (listed.getD i1 false) (listed.getD i2 false)) T (0,0))
section
variable {w W:World} {b:Nat} {T:TypeId} {i1 i2:Nat} {f:Bool→Bool→Array Value} {listed:Array Bool} {a a' : Act}
theorem C.start (k:Nat) (h:w.heap[b]? = some (.cells (f false false) T (0,0))):C w b T i1 i2 f (Array.replicate k false) a { w with drawn:=w.drawn+1 }:=by
 have e:∀ i,(Array.replicate k false).getD i false=false:=fun i=>by
  simp only [Array.getD_eq_getD_getElem?,Array.getElem?_replicate]
  split <;> simp
 exact ⟨(Dk.Only.refl _ w).drew,by rw [e,e]; exact h⟩
theorem C.still (h:C w b T i1 i2 f listed a W) {i:Nat} (h1:i≠i1) (h2:i≠i2):C w b T i1 i2 f (listed.setIfInBounds i true) a' W :=
 ⟨h.only,by rw [getD_set_ne false h1,getD_set_ne false h2]; exact h.blk⟩
theorem C.cell (h:C w b T i1 i2 f listed a W) (c:Nat) (hc:∀ x y,c<(f x y).size):(∃ u,W.cell? ⟨b,c,none⟩=some u)∧W.frozen? ⟨b,c,none⟩=false:=by
 refine ⟨⟨_,(cell_of_row W b c _ T (0,0) h.blk).trans (Array.getElem?_eq_getElem (hc _ _))⟩,?_⟩
 have:=h.blk
 simp [World.frozen?,this]
theorem C.set (h:C w b T i1 i2 f listed a W) (c:Nat) (v:Value) (g:Array Value) (hg:(f (listed.getD i1 false) (listed.getD i2 false)).setIfInBounds c v=g):(W.setCell ⟨b,c,none⟩ v).heap[b]? = some (.cells g T (0,0)):=by
 have:=h.blk
 rw [← hg]
 simp [World.setCell,Array.getElem?_modify,this]
theorem C.put1 (h:C w b T i1 i2 f listed a W) (hlt:i1<listed.size) (hno:listed.getD i1 true=false) (h12:i1≠i2) {c:Nat} {v:Value} (hf:∀ y,(f false y).setIfInBounds c v=f true y):C w b T i1 i2 f (listed.setIfInBounds i1 true) a' (W.setCell ⟨b,c,none⟩ v):=by
 have hn:=FreeD.not_listed hlt hno
 refine ⟨h.only.setCell (p:=⟨b,c,none⟩) (.inl rfl) v,?_⟩
 rw [getD_set_ne false h12]
 refine h.set c v _ ?_
 rw [hn,show (listed.setIfInBounds i1 true).getD i1 false=true by simp [hlt]]
 exact hf _
theorem C.put2 (h:C w b T i1 i2 f listed a W) (hlt:i2<listed.size) (hno:listed.getD i2 true=false) (h12:i1≠i2) {c:Nat} {v:Value} (hf:∀ x,(f x false).setIfInBounds c v=f x true):C w b T i1 i2 f (listed.setIfInBounds i2 true) a' (W.setCell ⟨b,c,none⟩ v):=by
 have hn:=FreeD.not_listed hlt hno
 refine ⟨h.only.setCell (p:=⟨b,c,none⟩) (.inl rfl) v,?_⟩
 rw [getD_set_ne false h12.symm]
 refine h.set c v _ ?_
 rw [hn,show (listed.setIfInBounds i2 true).getD i2 false=true by simp [hlt]]
 exact hf _
end
end Go.Proofs.YtcnohlgigmmefaaGreat.FreeF
