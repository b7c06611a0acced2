/- A part. -/
import Derived.Test.YtcnohlgigmmefaaGreatRows
import Derived.KernelRfl
import Derived.WalkKit
import Derived.WalkSpells
import Derived.WalkLawsBesides
import Derived.Laws.BitsAllLaws
import Derived.Lib.Hide
import Derived.Laws.ResultCell
import Derived.Deep.LoopGhost
import Derived.Deep.WholeRow
import Derived.LoopN
import Derived.Lib.Strings
import Derived.Lib.ConvBytes
import Derived.Laws.BytesArg
namespace Go.Proofs.YtcnohlgigmmefaaGreat.Cr
open Go.RowKit Go.Lib
set_option linter.unusedVariables false
set_option maxRecDepth 100000
namespace Crc
theorem xor_swap (a b c d:Nat):(a ^^^ b) ^^^ (c ^^^ d)=(a ^^^ c) ^^^ (b ^^^ d):=by
 rw [Nat.xor_assoc,Nat.xor_assoc,← Nat.xor_assoc b,Nat.xor_comm b c,Nat.xor_assoc c]
theorem xor_lt {a b:Nat} (ha:a<4294967296) (hb:b<4294967296):a ^^^ b<4294967296 :=
 Nat.xor_lt_two_pow (n:=32) ha hb
def step (r:Nat):Nat:=if r%2=1 then r / 2 ^^^ 3988292384 else r / 2
theorem step_odd {r:Nat} (h:r%2=1):step r=r / 2 ^^^ 3988292384:=by unfold step; rw [if_pos h]
theorem step_ev {r:Nat} (h:¬ r%2=1):step r=r / 2:=by unfold step; rw [if_neg h]
theorem step_lt {r:Nat} (h:r<4294967296):step r<4294967296:=by
 unfold step
 split
 ·exact xor_lt (by omega) (by omega)
 ·omega
theorem step_xor (a b:Nat):step (a ^^^ b)=step a ^^^ step b:=by
 have hx:=@Nat.xor_mod_two_eq_one a b
 by_cases ha:a%2=1 <;> by_cases hb:b%2=1
 ·have:¬ (a ^^^ b)%2=1:=by rw [hx]; simp [ha,hb]
  rw [step_ev this,step_odd ha,step_odd hb,Nat.xor_div_two,xor_swap,Nat.xor_self,Nat.xor_zero]
 ·have:(a ^^^ b)%2=1:=by rw [hx]; simp [ha]; omega
  rw [step_odd this,step_odd ha,step_ev hb,Nat.xor_div_two,Nat.xor_assoc,Nat.xor_assoc,Nat.xor_comm (b / 2)]
 ·have:(a ^^^ b)%2=1:=by rw [hx]; simp [hb]; omega
  rw [step_odd this,step_ev ha,step_odd hb,Nat.xor_div_two,Nat.xor_assoc]
 ·have:¬ (a ^^^ b)%2=1:=by rw [hx]; omega
  rw [step_ev this,step_ev ha,step_ev hb,Nat.xor_div_two]
theorem step_two (q:Nat):step (2*q)=q:=by
 have:¬ (2*q)%2=1:=by omega
 rw [step_ev this]; omega
def steps:Nat→Nat→Nat
 | 0,r=>r
 | n+1,r=>steps n (step r)
theorem steps_succ (n r:Nat):steps (n+1) r=step (steps n r):=by
 induction n generalizing r with
 | zero=>rfl
 | succ n ih=>rw [steps,ih,steps]
theorem steps_lt {n r:Nat} (h:r<4294967296):steps n r<4294967296:=by
 induction n generalizing r with
 | zero=>exact h
 | succ n ih=>exact ih (step_lt h)
theorem steps_xor (n a b:Nat):steps n (a ^^^ b)=steps n a ^^^ steps n b:=by
 induction n generalizing a b with
 | zero=>rfl
 | succ n ih=>rw [steps,step_xor,ih,steps,steps]
theorem steps_pow (n q:Nat):steps n (2 ^ n*q)=q:=by
 induction n generalizing q with
 | zero=>rw [steps,Nat.pow_zero,Nat.one_mul]
 | succ n ih=>rw [steps,Nat.pow_succ,Nat.mul_comm (2 ^ n) 2,Nat.mul_assoc,step_two,ih]
theorem split8 (r:Nat):2 ^ 8*(r / 2 ^ 8) ^^^ r%2 ^ 8=r:=by
 apply Nat.eq_of_testBit_eq
 intro i
 rw [Nat.testBit_xor,Nat.mul_comm,Nat.testBit_mul_two_pow,Nat.testBit_mod_two_pow,Nat.testBit_div_two_pow]
 by_cases h:8≤i
 ·have h2:¬ i<8:=by omega
  have e:i-8+8=i:=by omega
  simp [h,h2,e]
 ·have h2:i<8:=by omega
  simp [h,h2]
def one (r c:Nat):Nat:=steps 8 (r ^^^ c)
theorem one_table (r c:Nat):r / 256 ^^^ steps 8 (r%256 ^^^ c)=one r c:=by
 unfold one
 have e:r ^^^ c=2 ^ 8*(r / 2 ^ 8) ^^^ (r%2 ^ 8 ^^^ c):=by
  rw [← Nat.xor_assoc,split8]
 have k:steps 8 (2 ^ 8*(r / 2 ^ 8) ^^^ (r%2 ^ 8 ^^^ c))=steps 8 (2 ^ 8*(r / 2 ^ 8)) ^^^ steps 8 (r%2 ^ 8 ^^^ c):=steps_xor 8 _ _
 rw [e,k,steps_pow]
theorem one_lt {r c:Nat} (hr:r<4294967296) (hc:c<256):one r c<4294967296:=steps_lt (xor_lt hr (by omega))
def run (r:Nat) (l:List UInt8):Nat:=l.foldl (fun r c=>one r c.toNat) r
theorem run_nil (r:Nat):run r []=r:=by unfold run; rw [List.foldl_nil]
theorem run_cons (r:Nat) (c:UInt8) (l:List UInt8):run r (c :: l)=run (one r c.toNat) l:=by unfold run; rw [List.foldl_cons]
theorem run_append (r:Nat) (l m:List UInt8):run r (l++m)=run (run r l) m:=by
 induction l generalizing r with
 | nil=>rw [List.nil_append,run_nil]
 | cons c l ih=>rw [List.cons_append,run_cons,ih,run_cons]
theorem run_snoc (r:Nat) (l:List UInt8) (c:UInt8):run r (l++[c])=one (run r l) c.toNat:=by
 rw [run_append,run_cons,run_nil]
theorem run_lt {r:Nat} (l:List UInt8) (h:r<4294967296):run r l<4294967296:=by
 induction l generalizing r with
 | nil=>rw [run_nil]; exact h
 | cons c l ih=>rw [run_cons]; exact ih (one_lt h (UInt8.toNat_lt c))
def neg (r:Nat):Nat:=r ^^^ 4294967295
theorem neg_lt {r:Nat} (h:r<4294967296):neg r<4294967296:=xor_lt h (by omega)
def more (s:Nat) (l:List UInt8):Nat:=neg (run (neg s) l)
theorem more_lt {s:Nat} (l:List UInt8) (h:s<4294967296):more s l<4294967296:=neg_lt (run_lt l (neg_lt h))
end Crc
open Go.RowKit Go.Lib
theorem ret_int {k:IntKind} {a b:Int} (h:a=b):Ending.returned (.int k a)=.returned (.int k b):=by rw [h]
theorem and1 (r:Nat) (h:r<4294967296):bits .and .u32 (r:Int) 1=((r%2:Nat):Int):=by
 have:=u32_and_nat r 1 h (by omega)
 rw [Nat.and_one_is_mod] at this
 exact this
theorem halved_any (r:Nat) (w:World) (h:r<4294967296) :
 Calls Tryz.prog 223 #[.int .u32 r] w fun e w'=>e=.returned (.int .u32 (Crc.step r:Nat))∧w=w':=by
 have ha:=and1 r h
 by_cases ho:r%2=1
 ·have e:((r%2:Nat):Int)=1:=by omega
  rw [e] at ha
  have X:=Lib.hid (u32_xor_nat (r / 2) 3988292384 (by omega) (by omega))
  rw [Crc.step_odd ho]
  clear e ho
  go_enter Tryz.func223,Tryz.ntmps223
  go_wp2
  go_ret
  exact ⟨ret_int (by rw [← X.out]; rfl),rfl⟩
 ·have e:((r%2:Nat):Int)=0:=by omega
  rw [e] at ha
  rw [Crc.step_ev ho]
  clear e ho
  go_enter Tryz.func223,Tryz.ntmps223
  go_wp2
  go_ret
  exact ⟨rfl,rfl⟩
def tab (k:Nat):Array Value:=((List.range 256).map fun i=>if i<k then Value.int .u32 ((Crc.steps 8 i:Nat):Int) else .int .u32 0).toArray
theorem tab_size (k:Nat):(tab k).size=256:=by simp [tab]
theorem tab_get (k i:Nat) (h:i<256):(tab k)[i]? = some (if i<k then Value.int .u32 ((Crc.steps 8 i:Nat):Int) else .int .u32 0):=by
 unfold tab
 rw [List.getElem?_toArray,List.getElem?_map,List.getElem?_range h]
 rfl
theorem tab_zero:Array.replicate 256 (Value.int .u32 0)=tab 0:=by
 apply Array.ext_getElem?
 intro i
 by_cases h:i<256
 ·rw [tab_get 0 i h,if_neg (by omega),Array.getElem?_replicate,if_pos h]
 ·rw [Array.getElem?_eq_none (by simp; omega),Array.getElem?_eq_none (by rw [tab_size]; omega)]
theorem tab_set (k:Nat) (hk:k<256):(tab k).setIfInBounds k (.int .u32 ((Crc.steps 8 k:Nat):Int))=tab (k+1):=by
 apply Array.ext_getElem?
 intro i
 rw [Array.getElem?_setIfInBounds]
 by_cases h:i<256
 ·rw [tab_get (k+1) i h,tab_get k i h]
  by_cases e:k=i
  ·subst e; rw [if_pos rfl,if_pos (by rw [tab_size]; exact hk),if_pos (by omega)]
  ·rw [if_neg e]
   by_cases l:i<k
   ·rw [if_pos l,if_pos (by omega)]
   ·rw [if_neg l,if_neg (by omega)]
 ·rw [Array.getElem?_eq_none (show (tab (k+1)).size≤i by rw [tab_size]; omega),if_neg (by omega),Array.getElem?_eq_none (by rw [tab_size]; omega)]
theorem tab_one (k:Nat):(tab k).all (·.oneCell')=true:=by
 rw [Array.all_eq_true]
 intro i h
 rw [tab_size] at h
 have e:=tab_get k i h
 rw [Array.getElem?_eq_getElem (by rw [tab_size]; exact h)] at e
 rw [Option.some.inj e]
 split <;> rfl
def Lies (w:World) (b:Nat):Prop:=∀ i,i<256→w.cell? ⟨b,i,none⟩=some (.int .u32 ((Crc.steps 8 i:Nat):Int))
set_option maxRecDepth 1000000 in
theorem next_at (b r c x y z:Nat) (w:World) (hx:(x:Int)<256) (cell:w.cell? ⟨b,x,none⟩=some (.int .u32 (y:Int)))
 (X8:bits .xor .u8 ((r:Int)%256) (c:Int)=(x:Int)) (X:Hid (bits .xor .u32 ((r:Int) / 256) (y:Int)=(z:Int))) :
 Calls Tryz.prog 219 #[.pointer (some ⟨b,0,none⟩),.int .u32 r,.int .u8 c] w fun e w'=>e=.returned (.int .u32 z)∧w=w':=by
 go_enter Tryz.func219,Tryz.ntmps219
 go_wp2
 go_ret
 exact ⟨ret_int X.out,rfl⟩
theorem next_any (b r:Nat) (c:Nat) (w:World) (hr:r<4294967296) (hc:c<256) (hl:Lies w b) :
 Calls Tryz.prog 219 #[.pointer (some ⟨b,0,none⟩),.int .u32 r,.int .u8 c] w fun e w'=>e=.returned (.int .u32 (Crc.one r c:Nat))∧w=w':=by
 have hx:r%256 ^^^ c<256:=Nat.xor_lt_two_pow (n:=8) (by omega) hc
 have hs:Crc.steps 8 (r%256 ^^^ c)<4294967296:=Crc.steps_lt (by omega)
 have X:=u32_xor_nat (r / 256) (Crc.steps 8 (r%256 ^^^ c)) (by omega) hs
 rw [Crc.one_table] at X
 exact next_at b r c _ _ _ w (by omega) (hl _ hx) (u8_xor_nat (r%256) c (by omega) hc) (Lib.hid X)
open Go.RowKit Go.Lib
theorem zero_tab:(∀ w,(zeroValue 292).run Tryz.prog w=.ok (.agg (Array.replicate 256 (.int .u32 0))) w)∧(Tryz.prog.info? 292).map (·.size)=some 256 :=
 zero_of_info (by kernel_rfl)
theorem below_setRow {B:Nat} {a w:World} (h:Below B a w) {g:Nat} (hg:B≤g) (cs:Array Value):Below B a (w.setRow g cs) :=
 ⟨h.os,h.tape,h.output,by rw [size_setRow]; exact h.size,fun k hk=>(setRow_other w g k cs (by omega)).trans (h.block k hk)⟩
set_option maxHeartbeats 4000000 in
set_option maxRecDepth 1000000 in
theorem rests_any (w:World) :
 Calls Tryz.prog 218 #[] w fun e w'=>e=.returned (.agg (tab 256))∧Below w.heap.size w w':=by
 obtain ⟨hv,hi⟩:=zero_tab
 rw [tab_zero] at hv
 have HI:=Lib.hid hi
 clear hi
 go_enter Tryz.func218,Tryz.ntmps218
 go_wp2
 go_loopg [4] 256 (fun g s4 wx=>∃ i:Nat,i+g=256∧s4=.int .i64 i∧wx=(w.alloc (.cells (tab 0) 292)).alloc (.cells (tab i) 292))
 case atStart=>exact ⟨0,by omega,rfl,rfl⟩
 case round =>
  obtain ⟨i,hig,rfl,rfl⟩:=hrel
  cases gk with
  | zero =>
    obtain rfl:i=256:=by omega
    have hin:(Tryz.prog.info? 292).map (·.size)=some (tab 256).size:=by rw [tab_size]; exact HI.out
    go_wp2_with (first|(with_reducible refine wpList_load_row rfl 292 (.tmp 1) rfl (w.heap.size+1) rfl 292 (tab 256) (0,0) _ (heap_alloc2_new w _ _) Tryz.underlying292 rfl hin ?_)|(with_reducible refine wpList_store_row rfl 292 (.tmp 0) (.tmp 18) rfl w.heap.size (tab 256) rfl rfl 292 (tab 0) (heap_alloc2_old w _ _) hin (by rw [tab_size,tab_size]) (tab_one 256) ?_))
    have hh:=setRow_heap ((w.alloc (.cells (tab 0) 292)).alloc (.cells (tab 256) 292)) w.heap.size (tab 0) (tab 256) 292 _ (heap_alloc2_old w _ _)
    refine bodyPost_ret (v:=.agg (tab 256)) (results_cell_row (by rfl) _ _ w.heap.size _ (tab 256) _ _ (by rfl) hh Tryz.underlying292 rfl hin) rfl ⟨rfl,?_⟩
    exact below_setRow (((Below.refl _ _).alloc (Nat.le_refl _) _).alloc (by simp) _) (Nat.le_refl _) _
  | succ g =>
    have hi:i<256:=by omega
    have hiz:(i:Int)<256:=by omega
    have hs:=tab_size i
    go_wp2_with fail
    go_loop [3,9] (fun r j=>∃ k:Nat,k≤8∧j=.int .i64 k∧r=.int .u32 ((Crc.steps k i:Nat):Int)) (fun _ j=>8-(intOf j).toNat)
    case atStart=>exact ⟨0,by omega,rfl,rfl⟩
    case round =>
     obtain ⟨k,hk,rfl,rfl⟩:=hrel
     have hb:Crc.steps k i<4294967296:=Crc.steps_lt (by omega)
     by_cases hlt:k<8
     ·go_wp2_with (go_at_call 223; refine (halved_any _ _ hb).mono ?_; rintro e w' ⟨rfl,rfl⟩)
      go_round
      case rel=>exact ⟨k+1,by omega,by go_num,by rw [Crc.steps_succ]⟩
      case measure=>simp [intOf]; omega
     ·obtain rfl:k=8:=by omega
      go_wp2
      rw [tab_set i hi]
      go_roundg g
      case measure=>omega
      case rel=>exact ⟨i+1,by omega,by go_num,rfl⟩
open Go.RowKit Go.Lib
theorem lies_tab (w:World) (t:TypeId):Lies (w.alloc (.cells (tab 256) t)) w.heap.size:=by
 intro i h
 rw [cell_of_row _ _ i (tab 256) t (0,0) (heap_alloc_new w _),tab_get 256 i h,if_pos h]
theorem not_u32 (a:Nat) (h:a<4294967296):bits .xor .u32 IntKind.u32.max (a:Int)=((Crc.neg a:Nat):Int):=by
 have e:=u32_xor_nat 4294967295 a (by omega) h
 rw [Nat.xor_comm] at e
 exact e
theorem take_snoc (s:ByteArray) (k:Nat) (h:k<s.size):s.data.toList.take (k+1)=s.data.toList.take k++[s[k]]:=by
 rw [List.take_succ_eq_append_getElem (by simpa using h)]; rfl
set_option maxHeartbeats 4000000 in
set_option maxRecDepth 1000000 in
theorem more_any (a:Nat) (s:ByteArray) (w:World) (ha:a<4294967296) (hs:s.size≤maxLen) :
 Calls Tryz.prog 209 #[.int .u32 a,.string s] w fun e w'=>e=.returned (.int .u32 (Crc.more a s.data.toList:Nat))∧Below w.heap.size w w':=by
 unfold maxLen at hs
 obtain ⟨hv,hi⟩:=zero_tab
 rw [tab_zero] at hv
 have HI:=Lib.hid (show (Tryz.prog.info? 292).map (·.size)=some (tab 256).size by rw [tab_size]; exact hi)
 clear hi
 go_enter Tryz.func209,Tryz.ntmps209
 go_wp2_with fail
 refine (rests_any _).mono ?_
 rintro e w1 ⟨rfl,hb⟩
 go_wp2_with (with_reducible refine wpList_store_row rfl 292 (.tmp 5) (.tmp 8) rfl w1.heap.size (tab 256) rfl rfl 292 (tab 0) (heap_alloc_new w1 _) HI.out (by rw [tab_size,tab_size]) (tab_one 256) ?_)
 rw [World.setRow_alloc_new]
 rw [not_u32 a ha]
 have hn:=Crc.neg_lt ha
 have hl:=Lib.hid (lies_tab w1 292)
 have HB:=Lib.hid ((hb.trans (((Below.refl _ _).alloc (Nat.le_refl _) _).mono hb.size)):Below w.heap.size w (w1.alloc (.cells (tab 256) 292)))
 clear hb hv HI
 generalize w1.alloc (.cells (tab 256) 292)=w2 at *
 generalize w1.heap.size=b at *
 have D:=Lib.hid (show Crc.more a s.data.toList=Crc.neg (Crc.run (Crc.neg a) s.data.toList) from rfl)
 generalize Crc.neg a=n at *
 go_loop [6,13] (fun r i=>∃ k:Nat,k≤s.size∧i=.int .i64 k∧r=.int .u32 ((Crc.run n (s.data.toList.take k):Nat):Int)) (fun _ i=>s.size-(intOf i).toNat)
 case atStart=>exact ⟨0,Nat.zero_le _,rfl,by rw [List.take_zero,Crc.run_nil]⟩
 case round =>
  obtain ⟨k,hk,rfl,rfl⟩:=hrel
  have hr:=Crc.run_lt (s.data.toList.take k) hn
  by_cases hlt:k<s.size
  ·have E:=Lib.hid (show Crc.run n (s.data.toList.take (k+1))=Crc.one (Crc.run n (s.data.toList.take k)) s[k].toNat by rw [take_snoc s k hlt,Crc.run_snoc])
   have hc:=UInt8.toNat_lt s[k]
   generalize Crc.run n (s.data.toList.take k)=r at *
   go_wp2_with (go_at_call 219; refine (next_any _ _ _ _ hr hc hl.out).mono ?_; rintro e w' ⟨rfl,rfl⟩)
   go_round
   case rel=>exact ⟨k+1,by omega,by go_num,by rw [E.out]⟩
   case measure=>simp [intOf]; omega
  ·obtain rfl:s.size=k:=by omega
   go_wp2
   go_ret
   exact ⟨ret_int (by rw [not_u32 _ hr,D.out,List.take_of_length_le (by simp)]),HB.out⟩
theorem sum_any (s:ByteArray) (w:World) (hs:s.size≤maxLen) :
 Calls Tryz.prog 194 #[.string s] w fun e w'=>e=.returned (.int .u32 (Crc.more 0 s.data.toList:Nat))∧Below w.heap.size w w':=by
 have C:=Lib.hid (fun w=>more_any 0 s w (by omega) hs)
 go_enter Tryz.func194,Tryz.ntmps194
 go_wp2_with fail
 refine (C.out _).mono ?_
 rintro e w1 ⟨rfl,hb⟩
 go_wp2
 go_ret
 exact ⟨rfl,hb⟩
theorem Ge.trans {a b c:World} (h:Below a.heap.size a b) (k:Below b.heap.size b c):Below a.heap.size a c:=h.trans (k.mono h.size)
open Go.RowKit Go.Lib
open Go.RowKit Go.Lib
theorem val_int {k:IntKind} {a b:Int} (h:a=b):Value.int k a=.int k b:=by rw [h]
open Go.RowKit Go.Lib
structure Row (b:Nat) (l:List UInt8) (W:World):Prop where
 cell:∀ j,j<l.length→W.cell? ⟨b,j,none⟩=some (.int .u8 (((l.getD j 0).toNat:Nat):Int))
 free:∀ j,j<l.length→W.frozen? ⟨b,j,none⟩=false
 there:b<W.heap.size
theorem Row.set {b:Nat} {l:List UInt8} {W:World} (h:Row b l W) (i:Nat) (hi:i<l.length) (v:UInt8):Row b (l.set i v) (W.setCell ⟨b,i,none⟩ (.int .u8 ((v.toNat:Nat):Int))):=by
 refine ⟨fun j hj=>?_,fun j hj=>?_,by simp [World.setCell]; exact h.there⟩
 ·rw [List.length_set] at hj
  by_cases e:i=j
  ·subst e
   rw [World.cell?_setCell_same W _ _ (h.cell i hi),List.getD_eq_getElem?_getD,List.getElem?_set_self hi]
   rfl
  ·rw [World.cell?_setCell_other W _ _ _ (by intro h; exact e (by injection h)),h.cell j hj,List.getD_eq_getElem?_getD,List.getD_eq_getElem?_getD,List.getElem?_set_ne e]
 ·rw [List.length_set] at hj
  rw [World.frozen?_setCell]; exact h.free j hj
theorem Row.below {b:Nat} {l:List UInt8} {W W' : World} (h:Row b l W) (hb:Below W.heap.size W W'):Row b l W' :=
 ⟨fun j hj=>(hb.cell (p:=⟨b,j,none⟩) h.there).trans (h.cell j hj),fun j hj=>(hb.frozen (p:=⟨b,j,none⟩) h.there).trans (h.free j hj),Nat.lt_of_lt_of_le h.there hb.size⟩
theorem Row.drew {b:Nat} {l:List UInt8} {W:World} (h:Row b l W):Row b l W.drew:=⟨h.cell,h.free,h.there⟩
end Go.Proofs.YtcnohlgigmmefaaGreat.Cr
