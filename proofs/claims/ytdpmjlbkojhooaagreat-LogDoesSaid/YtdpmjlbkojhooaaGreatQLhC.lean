/- A part. -/
import Derived.Test.YtdpmjlbkojhooaaGreatQLhB
namespace Go.Proofs.YtdpmjlbkojhooaaGreat.Lg
open Go.RowKit Go.Lib
open Tb (Tab TIn Sl okP csT lastN nth Fresh)
open Dk (St Only Grew)
set_option linter.unusedVariables false
set_option maxRecDepth 100000
def pan (y:Int):List PanicEntry:=[{ v:=.iface 31 (.int .i64 y),recovered:=false }]
theorem must_t (sg st:Int) (A:Option Addr) (m p:Nat) (B:Option Addr) (k q:Nat) (C:Option Addr) (n r:Nat) (w:World):Calls Tryz.prog 74 #[.agg #[.int .i64 sg,.int .i64 st,.slice A m p,.slice B k q,.slice C n r],.int .i64 0] w fun e w'=>e=.returned (.agg #[.int .i64 sg,.int .i64 st,.slice A m p,.slice B k q,.slice C n r])∧Below w.heap.size w w':=by
 have hvT:=Tryz.zeroValue64
 have B0:Below w.heap.size w ((w.alloc (.cells #[.int .i64 sg,.int .i64 st,.slice A m p,.slice B k q,.slice C n r] 64)).alloc (.cells #[.int .i64 0,.int .i64 0,.slice none 0 0,.slice none 0 0,.slice none 0 0] 64)):=Tb.Ge.trans (Tb.below1 _ _) (Tb.below1 _ _)
 have N2:Tb.Blk ((w.alloc (.cells #[.int .i64 sg,.int .i64 st,.slice A m p,.slice B k q,.slice C n r] 64)).alloc (.cells #[.int .i64 0,.int .i64 0,.slice none 0 0,.slice none 0 0,.slice none 0 0] 64)) w.heap.size 64 (csT sg st A m p B k q C n r):=(Tb.Blk.new w _ _).later (Tb.below1 _ _)
 have N4:Tb.Blk ((w.alloc (.cells #[.int .i64 sg,.int .i64 st,.slice A m p,.slice B k q,.slice C n r] 64)).alloc (.cells #[.int .i64 0,.int .i64 0,.slice none 0 0,.slice none 0 0,.slice none 0 0] 64)) (w.heap.size+1) 64 (csT 0 0 none 0 0 none 0 0 none 0 0):=Tb.Blk.at_ _ _ _ (by simp)
 go_enter Tryz.func74,Tryz.ntmps74
 go_upto_region 1 with fail
 generalize ((w.alloc (.cells #[.int .i64 sg,.int .i64 st,.slice A m p,.slice B k q,.slice C n r] 64)).alloc (.cells #[.int .i64 0,.int .i64 0,.slice none 0 0,.slice none 0 0,.slice none 0 0] 64))=w1 at *
 go_wp2_with (first
  | (with_reducible refine Tb.load_t rfl (.tmp 2) rfl w.heap.size rfl N2 ?_)
  | (with_reducible refine Tb.store_t rfl (.tmp 4) (.tmp 9) rfl (w.heap.size+1) rfl rfl N4 ?_))
 exact bodyPost_ret (Tb.res_t1 rfl _ _ (w.heap.size+1) rfl (N4.row _)) rfl ⟨rfl,Tb.below_row B0 (by omega) _⟩
theorem must_t_no (sg st:Int) (A:Option Addr) (m p:Nat) (B:Option Addr) (k q:Nat) (C:Option Addr) (n r:Nat) (y:Int) (hy:y≠0) (w:World):Calls Tryz.prog 74 #[.agg #[.int .i64 sg,.int .i64 st,.slice A m p,.slice B k q,.slice C n r],.int .i64 y] w fun e w'=>e=.panicked (pan y)∧Below w.heap.size w w':=by
 have hvT:=Tryz.zeroValue64
 have B0:Below w.heap.size w ((w.alloc (.cells #[.int .i64 sg,.int .i64 st,.slice A m p,.slice B k q,.slice C n r] 64)).alloc (.cells #[.int .i64 0,.int .i64 0,.slice none 0 0,.slice none 0 0,.slice none 0 0] 64)):=Tb.Ge.trans (Tb.below1 _ _) (Tb.below1 _ _)
 have q:(y != 0)=true:=by simpa using hy
 clear hy
 go_enter Tryz.func74,Tryz.ntmps74
 go_wp2_with fail
 exact ⟨rfl,rfl,B0⟩
theorem must_s (S:ByteArray) (w:World):Calls Tryz.prog 121 #[.string S,.int .i64 0] w fun e w'=>e=.returned (.string S)∧Below w.heap.size w w':=by
 go_enter Tryz.func121,Tryz.ntmps121
 go_wp2_with fail
 go_ret
 exact ⟨rfl,Below.refl _ _⟩
section
variable {W w:World} {items:List Dk.Item} {k d:Nat} {s:St}
theorem swrite_yes (h:Dk.Sep W w items) (hk:items[k]? = some (Dk.diskI d s)) (i:Int) (x:ByteArray) (hi:s.has i) (hx:x.size=128) (hd:¬ s.dead) (hpl:s.pend.length<1048576) :
 Calls Tryz.prog 125 #[.agg #[.pointer (some ⟨d,0,none⟩),.int .i64 i,.string x]] w fun e w'=>e=.returned (.int .i64 0)∧Dk.Sep W w' (items.set k (Dk.diskI d (s.write i x))):=by
 have N:Tb.Blk (w.alloc (.cells #[.pointer (some ⟨d,0,none⟩),.int .i64 i,.string x] 182)) w.heap.size 182 #[.pointer (some ⟨d,0,none⟩),.int .i64 i,.string x]:=Tb.Blk.new w _ _
 have h1:=h.alloc (.cells #[.pointer (some ⟨d,0,none⟩),.int .i64 i,.string x] 182)
 clear h
 go_enter Tryz.func125,Tryz.ntmps125
 go_upto_region 1 with fail
 generalize w.alloc (.cells #[.pointer (some ⟨d,0,none⟩),.int .i64 i,.string x] 182)=w1 at *
 have c0:w1.cell? ⟨w.heap.size,0,none⟩=some (.pointer (some ⟨d,0,none⟩)):=N.cell 0
 have c1:w1.cell? ⟨w.heap.size,1,none⟩=some (.int .i64 i):=N.cell 1
 have c2:w1.cell? ⟨w.heap.size,2,none⟩=some (.string x):=N.cell 2
 have HC:=Lib.hid (Dk.write_s h1 k hk i x hi hx hd hpl)
 clear N h1 hi hx hd
 go_wp2_with fail
 refine HC.out.mono ?_
 rintro e' w2 ⟨rfl,h2⟩
 have H2:=Lib.hid h2
 clear HC h2
 go_wp2_with fail
 go_ret
 exact ⟨rfl,H2.out⟩
theorem swrite_dead (h:Dk.Sep W w items) (hk:items[k]? = some (Dk.diskI d s)) (i:Int) (x:ByteArray) (hi:s.has i) (hx:x.size=128) (hd:s.dead) :
 Calls Tryz.prog 125 #[.agg #[.pointer (some ⟨d,0,none⟩),.int .i64 i,.string x]] w fun e w'=>e=.returned (.int .i64 9)∧Dk.Sep W w' items:=by
 have N:Tb.Blk (w.alloc (.cells #[.pointer (some ⟨d,0,none⟩),.int .i64 i,.string x] 182)) w.heap.size 182 #[.pointer (some ⟨d,0,none⟩),.int .i64 i,.string x]:=Tb.Blk.new w _ _
 have h1:=h.alloc (.cells #[.pointer (some ⟨d,0,none⟩),.int .i64 i,.string x] 182)
 clear h
 go_enter Tryz.func125,Tryz.ntmps125
 go_upto_region 1 with fail
 generalize w.alloc (.cells #[.pointer (some ⟨d,0,none⟩),.int .i64 i,.string x] 182)=w1 at *
 have c0:w1.cell? ⟨w.heap.size,0,none⟩=some (.pointer (some ⟨d,0,none⟩)):=N.cell 0
 have c1:w1.cell? ⟨w.heap.size,1,none⟩=some (.int .i64 i):=N.cell 1
 have c2:w1.cell? ⟨w.heap.size,2,none⟩=some (.string x):=N.cell 2
 have HC:Hid (Calls Tryz.prog 160 #[.pointer (some ⟨d,0,none⟩),.int .i64 i,.string x] w1 fun e w'=>e=.returned (.int .i64 9)∧w1=w'):=Lib.hid (by
  obtain ⟨G,D,_⟩:=h1.at_ k hk
  exact Dk.write_dead D i x hi hx hd)
 have H1:=Lib.hid h1
 clear N h1 hi hx hd
 go_wp2_with fail
 refine HC.out.mono ?_
 rintro e' w2 ⟨rfl,rfl⟩
 clear HC
 go_wp2_with fail
 go_ret
 exact ⟨rfl,H1.out⟩
theorem do_write_yes (h:Dk.Sep W w items) (hk:items[k]? = some (Dk.diskI d s)) (i:Int) (x:ByteArray) (hi:s.has i) (hx:x.size=128) (hd:¬ s.dead) (hpl:s.pend.length<1048576) :
 Calls Tryz.prog 123 #[.func (.func 125) #[.agg #[.pointer (some ⟨d,0,none⟩),.int .i64 i,.string x]] #[]] w fun e w'=>e=.returned (.tuple #[])∧Dk.Sep W w' (items.set k (Dk.diskI d (s.write i x))):=by
 have HC:=Lib.hid (swrite_yes h hk i x hi hx hd hpl)
 clear h hi hx hd
 go_enter Tryz.func123,Tryz.ntmps123
 go_wp2_with fail
 refine HC.out.mono ?_
 rintro e' w2 ⟨rfl,h2⟩
 have H2:=Lib.hid h2
 clear HC h2
 go_wp2_with fail
 go_end0
 exact ⟨rfl,H2.out⟩
theorem do_write_dead (h:Dk.Sep W w items) (hk:items[k]? = some (Dk.diskI d s)) (i:Int) (x:ByteArray) (hi:s.has i) (hx:x.size=128) (hd:s.dead) :
 Calls Tryz.prog 123 #[.func (.func 125) #[.agg #[.pointer (some ⟨d,0,none⟩),.int .i64 i,.string x]] #[]] w fun e w'=>e=.panicked (pan 9)∧Dk.Sep W w' items:=by
 have HC:=Lib.hid (swrite_dead h hk i x hi hx hd)
 clear h hi hx hd
 go_enter Tryz.func123,Tryz.ntmps123
 go_wp2_with fail
 refine HC.out.mono ?_
 rintro e' w2 ⟨rfl,h2⟩
 have H2:=Lib.hid h2
 clear HC h2
 go_wp2_with fail
 exact ⟨rfl,rfl,H2.out⟩
theorem do_flush_yes (h:Dk.Sep W w items) (hk:items[k]? = some (Dk.diskI d s)) (hd:¬ s.dead) (hpl:s.pend.length<1048576) :
 Calls Tryz.prog 123 #[.func (.func 124) #[.pointer (some ⟨d,0,none⟩)] #[]] w fun e w'=>e=.returned (.tuple #[])∧Dk.Sep W w' (items.set k (Dk.diskI d s.flush)):=by
 have HC:=Lib.hid (Dk.flush_s h k hk hd hpl)
 clear h hd
 go_enter Tryz.func123,Tryz.ntmps123
 go_wp2_with fail
 refine HC.out.mono ?_
 rintro e' w2 ⟨rfl,h2⟩
 have H2:=Lib.hid h2
 clear HC h2
 go_wp2_with fail
 go_end0
 exact ⟨rfl,H2.out⟩
theorem do_flush_dead (h:Dk.Sep W w items) (hk:items[k]? = some (Dk.diskI d s)) (hd:s.dead) :
 Calls Tryz.prog 123 #[.func (.func 124) #[.pointer (some ⟨d,0,none⟩)] #[]] w fun e w'=>e=.panicked (pan 9)∧Dk.Sep W w' items:=by
 have HC:Hid (Calls Tryz.prog 124 #[.pointer (some ⟨d,0,none⟩)] w fun e w'=>e=.returned (.int .i64 9)∧w=w'):=Lib.hid (by
  obtain ⟨G,D,_⟩:=h.at_ k hk
  exact Dk.flush_dead D hd)
 have H1:=Lib.hid h
 clear h hd
 go_enter Tryz.func123,Tryz.ntmps123
 go_wp2_with fail
 refine HC.out.mono ?_
 rintro e' w2 ⟨rfl,rfl⟩
 clear HC
 go_wp2_with fail
 exact ⟨rfl,rfl,H1.out⟩
end
end Go.Proofs.YtdpmjlbkojhooaaGreat.Lg
