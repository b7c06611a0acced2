/- A part. -/
import Derived.Test.YtdpmjlbkojhooaaGreatRows
import Derived.WalkKit
import Derived.WalkSpells
import Derived.WalkLawsBesides
import Derived.Lib.Mul64
import Derived.Laws.Bits64b
import Derived.Laws.Externs
import Derived.Lib.Hide
import Derived.LoopN
import Derived.Laws.BytesArg
import Derived.Lib.BufferWrite
import Derived.Deep.LoopGhost
import Derived.WalkSmall
namespace Go.Proofs.YtdpmjlbkojhooaaGreat.Wd
open Go.RowKit Go.Lib
set_option linter.unusedVariables false
set_option maxRecDepth 100000
open Go.RowKit Go.Lib
theorem within_lo (n:Int) (w:World) (h:n<0) :
 Calls Tryz.prog 170 #[.int .i64 n] w fun e w'=>e=.returned (.int .i64 0)∧w=w':=by
 go_enter Tryz.func170,Tryz.ntmps170
 go_wp2
 go_ret
 exact ⟨rfl,rfl⟩
theorem within_hi (n:Int) (w:World) (h:8<n) :
 Calls Tryz.prog 170 #[.int .i64 n] w fun e w'=>e=.returned (.int .i64 8)∧w=w':=by
 go_enter Tryz.func170,Tryz.ntmps170
 go_wp2
 go_ret
 exact ⟨rfl,rfl⟩
theorem within_in (n:Int) (w:World) (h:0≤n) (h8:n≤8) :
 Calls Tryz.prog 170 #[.int .i64 n] w fun e w'=>e=.returned (.int .i64 n)∧w=w':=by
 go_enter Tryz.func170,Tryz.ntmps170
 go_wp2
 go_ret
 exact ⟨rfl,rfl⟩
namespace M64
end M64
def putL:Nat→Nat→List UInt8
 | _,0=>[]
 | n,k+1=>UInt8.ofNat (n%256) :: putL (n / 256) k
def leN:List UInt8→Nat
 | []=>0
 | b :: r=>b.toNat+256*leN r
theorem putL_length:∀ (k n:Nat),(putL n k).length=k
 | 0,_=>rfl
 | k+1,n=>by simp [putL,putL_length k]
theorem toNat_ofNat_mod (n:Nat):(UInt8.ofNat (n%256)).toNat=n%256:=by
 simp
theorem leN_putL:∀ (k n:Nat),leN (putL n k)=n%256 ^ k
 | 0,n=>by simp [putL,leN,Nat.mod_one]
 | k+1,n=>by
   rw [putL,leN,leN_putL k,toNat_ofNat_mod,Nat.pow_succ,Nat.mul_comm (256 ^ k) 256,Nat.mod_mul]
theorem byte_lt (b:UInt8):b.toNat<256:=b.toNat_lt
theorem leN_lt:∀ (l:List UInt8),leN l<256 ^ l.length
 | []=>by simp [leN]
 | b :: r=>by
   have h:=leN_lt r
   have hb:=byte_lt b
   rw [leN,List.length_cons,Nat.pow_succ]
   omega
theorem leN_lt_of {l:List UInt8} {k:Nat} (h:l.length≤k):leN l<256 ^ k :=
 Nat.lt_of_lt_of_le (leN_lt l) (Nat.pow_le_pow_right (by omega) h)
theorem putL_leN:∀ (l:List UInt8),putL (leN l) l.length=l
 | []=>rfl
 | b :: r=>by
   have hb:=byte_lt b
   have e1:(leN (b :: r))%256=b.toNat:=by rw [leN]; omega
   have e2:(leN (b :: r)) / 256=leN r:=by rw [leN]; omega
   rw [List.length_cons,putL,e1,e2,putL_leN r]
   simp
theorem leN_append:∀ (a b:List UInt8),leN (a++b)=leN a+256 ^ a.length*leN b
 | [],b=>by simp [leN]
 | x :: a,b=>by
   rw [List.cons_append,leN,leN_append a b,leN,List.length_cons,Nat.pow_succ,Nat.mul_add,Nat.add_assoc,Nat.mul_comm (256 ^ a.length) 256,Nat.mul_assoc]
def clampN (s:Int):Nat:=if s<0 then 0 else if 8<s then 8 else s.toNat
theorem clampN_le (s:Int):clampN s≤8:=by unfold clampN; split <;> (try split) <;> omega
theorem clampN_lo {s:Int} (h:s<0):clampN s=0:=by unfold clampN; rw [if_pos h]
theorem clampN_hi {s:Int} (h:8<s):clampN s=8:=by unfold clampN; rw [if_neg (by omega),if_pos h]
theorem clampN_in {s:Int} (h:0≤s) (h' : s≤8):clampN s=s.toNat:=by unfold clampN; rw [if_neg (by omega),if_neg (by omega)]
def getN (l:List UInt8):Nat:=leN (l.take 8)
theorem getN_lt (l:List UInt8):getN l<18446744073709551616:=by
 have h:=leN_lt_of (l:=l.take 8) (k:=8) (by simp; omega)
 unfold getN; omega
def byteAt (l:List UInt8) (i:Nat):Nat:=(l[i]?.getD 0).toNat
theorem byteAt_lt (l:List UInt8) (i:Nat):byteAt l i<256:=byte_lt _
theorem leN_take_succ (l:List UInt8) (k:Nat):leN (l.take (k+1))=leN (l.take k)+256 ^ k*byteAt l k:=by
 rcases Nat.lt_or_ge k l.length with h|h
 ·rw [List.take_succ_eq_append_getElem h,leN_append]
  have e:(l.take k).length=k:=by simp; omega
  rw [e]
  simp [byteAt,leN,List.getElem?_eq_getElem h]
 ·rw [List.take_of_length_le h,List.take_of_length_le (by omega)]
  simp [byteAt,List.getElem?_eq_none h]
theorem getN_eq (l:List UInt8):getN l=byteAt l 0+256*byteAt l 1+65536*byteAt l 2+16777216*byteAt l 3+4294967296*byteAt l 4+1099511627776*byteAt l 5+281474976710656*byteAt l 6+72057594037927936*byteAt l 7:=by
 unfold getN
 rw [leN_take_succ,leN_take_succ,leN_take_succ,leN_take_succ,leN_take_succ,leN_take_succ,leN_take_succ,leN_take_succ]
 simp [leN]
open Go.RowKit Go.Lib
theorem cell8 (w:World) (x0 x1 x2 x3 x4 x5 x6 x7:Int) (i:Nat) (h:i<8) :
 (w.alloc (.cells #[.int .u8 x0,.int .u8 x1,.int .u8 x2,.int .u8 x3,.int .u8 x4,.int .u8 x5,.int .u8 x6,.int .u8 x7] 199)).cell? ⟨w.heap.size,0+i,none⟩=some (.int .u8 ([x0,x1,x2,x3,x4,x5,x6,x7].getD i 0)):=by
 match i,h with
 | 0,_=>simp [go_sem]
 | 1,_=>simp [go_sem]
 | 2,_=>simp [go_sem]
 | 3,_=>simp [go_sem]
 | 4,_=>simp [go_sem]
 | 5,_=>simp [go_sem]
 | 6,_=>simp [go_sem]
 | 7,_=>simp [go_sem]
theorem conv8 (w:World) (x0 x1 x2 x3 x4 x5 x6 x7:Int) (k:Nat) (h:k≤8) :
 (convert 97 9 (.slice (some ⟨w.heap.size,0,none⟩) k k)).run Tryz.prog (w.alloc (.cells #[.int .u8 x0,.int .u8 x1,.int .u8 x2,.int .u8 x3,.int .u8 x4,.int .u8 x5,.int .u8 x6,.int .u8 x7] 199)) =
  .ok (.string (strOfNums ([x0,x1,x2,x3,x4,x5,x6,x7].take k))) (w.alloc (.cells #[.int .u8 x0,.int .u8 x1,.int .u8 x2,.int .u8 x3,.int .u8 x4,.int .u8 x5,.int .u8 x6,.int .u8 x7] 199)):=by
 refine run_convert_bytes_arg _ 97 5 Tryz.underlying97 Tryz.underlying5 w.heap.size 0 k k _ (by simp; omega) (fun i hi=>?_) 9 Tryz.underlying9
 rw [cell8 w _ _ _ _ _ _ _ _ i (by omega)]
 congr 2
 rw [List.getD_eq_getElem?_getD,List.getD_eq_getElem?_getD,List.getElem?_take_of_lt hi]
theorem put_str (n:Int) (k:Nat) (h0:0≤n) (h1:n<18446744073709551616) (hk:k≤8) :
 strOfNums ([n%256,n / 256%256,n / 256 / 256%256,n / 256 / 256 / 256%256,n / 256 / 256 / 256 / 256%256,n / 256 / 256 / 256 / 256 / 256%256,n / 256 / 256 / 256 / 256 / 256 / 256%256,n / 256 / 256 / 256 / 256 / 256 / 256 / 256].take k)=⟨(putL n.toNat k).toArray⟩:=by
 obtain ⟨n,rfl⟩:=Int.eq_ofNat_of_zero_le h0
 have e1:((n:Int)%256).toNat=n%256:=by omega
 have e2:((n:Int) / 256%256).toNat=n / 256%256:=by omega
 have e3:((n:Int) / 256 / 256%256).toNat=n / 256 / 256%256:=by omega
 have e4:((n:Int) / 256 / 256 / 256%256).toNat=n / 256 / 256 / 256%256:=by omega
 have e5:((n:Int) / 256 / 256 / 256 / 256%256).toNat=n / 256 / 256 / 256 / 256%256:=by omega
 have e6:((n:Int) / 256 / 256 / 256 / 256 / 256%256).toNat=n / 256 / 256 / 256 / 256 / 256%256:=by omega
 have e7:((n:Int) / 256 / 256 / 256 / 256 / 256 / 256%256).toNat=n / 256 / 256 / 256 / 256 / 256 / 256%256:=by omega
 have e8:((n:Int) / 256 / 256 / 256 / 256 / 256 / 256 / 256).toNat=n / 256 / 256 / 256 / 256 / 256 / 256 / 256%256:=by omega
 have key:([(n:Int)%256,n / 256%256,n / 256 / 256%256,n / 256 / 256 / 256%256,n / 256 / 256 / 256 / 256%256,n / 256 / 256 / 256 / 256 / 256%256,n / 256 / 256 / 256 / 256 / 256 / 256%256,n / 256 / 256 / 256 / 256 / 256 / 256 / 256].map fun x=>UInt8.ofNat x.toNat)=putL n 8:=by
  simp only [List.map_cons,List.map_nil,e1,e2,e3,e4,e5,e6,e7,e8,putL]
 have hp:∀ (k j n:Nat),k≤j→(putL n j).take k=putL n k:=by
  intro k
  induction k with
  | zero=>intro j n _; simp [putL]
  | succ k ih =>
    intro j n hj
    match j,hj with
    | j+1,hj=>rw [putL,putL,List.take_succ_cons,ih j _ (by omega)]
 unfold strOfNums
 rw [List.map_take,key,hp k 8 n hk,Int.toNat_natCast]
theorem within_any (s:Int) (w:World) :
 Calls Tryz.prog 170 #[.int .i64 s] w fun e w'=>e=.returned (.int .i64 (clampN s:Int))∧w=w':=by
 by_cases h:s<0
 ·rw [clampN_lo h]; exact within_lo s w h
 by_cases h' : 8<s
 ·rw [clampN_hi h']; exact within_hi s w h'
 rw [clampN_in (by omega) (by omega),Int.toNat_of_nonneg (by omega)]
 exact within_in s w (by omega) (by omega)
set_option maxHeartbeats 1000000 in
theorem put_any (n s:Int) (w:World) (h0:0≤n) (h1:n<18446744073709551616) :
 Calls Tryz.prog 137 #[.int .u64 n,.int .i64 s] w fun e w'=>e=.returned (.string ⟨(putL n.toNat (clampN s)).toArray⟩)∧Below w.heap.size w w':=by
 have hk:=clampN_le s
 have C:=Lib.hid (fun w=>within_any s w)
 generalize clampN s=k at *
 have hs0:0≤(k:Int):=by omega
 have hs8:(k:Int)≤8:=by omega
 have E:=Lib.hid (put_str n k h0 h1 hk)
 have c:=conv8 w (n%256) (n / 256%256) (n / 256 / 256%256) (n / 256 / 256 / 256%256) (n / 256 / 256 / 256 / 256%256) (n / 256 / 256 / 256 / 256 / 256%256) (n / 256 / 256 / 256 / 256 / 256 / 256%256) (n / 256 / 256 / 256 / 256 / 256 / 256 / 256) k hk
 rw [E.out] at c
 clear E
 generalize (⟨(putL n.toNat k).toArray⟩:ByteArray)=r at *
 go_enter Tryz.func137,Tryz.ntmps137
 go_wp2
 refine wp_loop_rounds 9 ?_
 iterate 9 (rw [rounds_succ]; go_wp2_with fail)
 refine (C.out _).mono ?_
 rintro e w' ⟨rfl,rfl⟩
 go_wp2
 go_ret
 exact ⟨rfl,(Below.refl _ _).alloc (Nat.le_refl _) _⟩
def cells8 (l:List UInt8):Array Value:=#[.int .u8 (byteAt l 0:Int),.int .u8 (byteAt l 1:Int),.int .u8 (byteAt l 2:Int),.int .u8 (byteAt l 3:Int),.int .u8 (byteAt l 4:Int),.int .u8 (byteAt l 5:Int),.int .u8 (byteAt l 6:Int),.int .u8 (byteAt l 7:Int)]
theorem cells8_eq (l:List UInt8):(byteCells (l.take 8)++([.int .u8 0,.int .u8 0,.int .u8 0,.int .u8 0,.int .u8 0,.int .u8 0,.int .u8 0,.int .u8 0]:List Value).drop (min l.length 8)).toArray=cells8 l:=by
 match l with
 | []=>rfl
 | [_]=>rfl
 | [_,_]=>rfl
 | [_,_,_]=>rfl
 | [_,_,_,_]=>rfl
 | [_,_,_,_,_]=>rfl
 | [_,_,_,_,_,_]=>rfl
 | [_,_,_,_,_,_,_]=>rfl
 | _ :: _ :: _ :: _ :: _ :: _ :: _ :: _ :: r =>
   have e:min (r.length+1+1+1+1+1+1+1+1) 8=8:=by omega
   simp only [List.length_cons,e]
   rfl
theorem setRow_new (w:World) (cs ds:Array Value) (t:TypeId):(w.alloc (.cells cs t)).setRow w.heap.size ds=w.alloc (.cells ds t):=by
 unfold World.setRow World.alloc
 congr 1
 apply Array.ext
 ·simp
 ·intro i h1 h2
  simp only [Array.getElem_modify,Array.getElem_push]
  split <;> split <;> first|rfl|(simp_all; omega)|simp_all
theorem heap_new (w:World) (o:Obj):(w.alloc o).heap[w.heap.size]? = some o:=by
 show (w.heap.push o)[w.heap.size]? = some o
 simp
theorem copy8 (w:World) (s:ByteArray) :
 (Builtin.copy_ #[97,9] 3 #[.slice (some ⟨w.heap.size,0,none⟩) 8 8,.string s]).run Tryz.prog
  (w.alloc (.cells #[.int .u8 0,.int .u8 0,.int .u8 0,.int .u8 0,.int .u8 0,.int .u8 0,.int .u8 0,.int .u8 0] 199)) =
  .ok (goInt (Nat.min s.size 8)) (w.alloc (.cells (cells8 s.data.toList) 199)):=by
 have hlen:(byteCells (s.data.toList.take 8)).length=Nat.min s.size 8:=by rw [byteCells_length,List.length_take,← size_eq,Nat.min_comm]
 have hst:=run_storeCells_at Tryz.prog w.heap.size 0 199 (byteCells (s.data.toList.take 8)) 0 #[.int .u8 0,.int .u8 0,.int .u8 0,.int .u8 0,.int .u8 0,.int .u8 0,.int .u8 0,.int .u8 0] (w.alloc (.cells #[.int .u8 0,.int .u8 0,.int .u8 0,.int .u8 0,.int .u8 0,.int .u8 0,.int .u8 0,.int .u8 0] 199)) (heap_new w _) (by rw [hlen]; have:Nat.min s.size 8≤8:=Nat.min_le_right _ _; simp; omega) (byteCells_one _)
 have htk:List.take (Nat.min s.size 8) (List.map (fun b:UInt8=>Value.int IntKind.u8 (b.toNat:Int)) s.data.toList)=byteCells (s.data.toList.take 8):=by
  have e:Nat.min s.size 8=min 8 (List.map (fun b:UInt8=>Value.int IntKind.u8 (b.toNat:Int)) s.data.toList).length:=by rw [List.length_map,← size_eq,Nat.min_comm]
  rw [e,byteCells,List.map_take,List.take_eq_take_iff]
  omega
 rw [hlen] at hst
 have hz:∀ w,(Go.sizeOf 5).run Tryz.prog w=.ok 1 w:=by
  intro w; rfl
 simp [Builtin.copy_,run_underlying Tryz.underlying97,Builtin.lenOf,Builtin.firstCells,hz]
 rw [htk,hst]
 rw [setRow_new]
 have hc:=cells8_eq s.data.toList
 rw [← size_eq] at hc
 have e2:(List.take (0+0) (#[Value.int .u8 0,.int .u8 0,.int .u8 0,.int .u8 0,.int .u8 0,.int .u8 0,.int .u8 0,.int .u8 0]:Array Value).toList++byteCells (s.data.toList.take 8)++List.drop (0+0+Nat.min s.size 8) (#[Value.int .u8 0,.int .u8 0,.int .u8 0,.int .u8 0,.int .u8 0,.int .u8 0,.int .u8 0,.int .u8 0]:Array Value).toList).toArray=cells8 s.data.toList:=by
  rw [← hc,Nat.add_zero,Nat.zero_add,List.take_zero,List.nil_append]
 rw [e2]
 rfl
theorem orN (a x M i:Nat) (hM:M=2 ^ i) (ha:a<M) (hx:x*M<18446744073709551616) (h:a+x*M<18446744073709551616) :
 bits .or .u64 (a:Int) ((x:Int)*(M:Int))=((a+x*M:Nat):Int):=by
 rw [← Int.natCast_mul,bits_or_u64_nat a (x*M) (by omega) hx]
 congr 1
 subst hM
 rw [← Nat.shiftLeft_eq,Nat.or_comm,← Nat.shiftLeft_add_eq_or_of_lt ha,Nat.add_comm]
theorem or8 (x0 x1 x2 x3 x4 x5 x6 x7:Nat) (b0:x0<256) (b1:x1<256) (b2:x2<256) (b3:x3<256) (b4:x4<256) (b5:x5<256) (b6:x6<256) (b7:x7<256) :
 bits .or .u64 (bits .or .u64 (bits .or .u64 (bits .or .u64 (bits .or .u64 (bits .or .u64 (bits .or .u64 (bits .or .u64 0 (x0:Int)) ((x1:Int)*256)) ((x2:Int)*65536)) ((x3:Int)*16777216)) ((x4:Int)*4294967296)) ((x5:Int)*1099511627776)) ((x6:Int)*281474976710656)) ((x7:Int)*72057594037927936) =
  ((x0+256*x1+65536*x2+16777216*x3+4294967296*x4+1099511627776*x5+281474976710656*x6+72057594037927936*x7:Nat):Int):=by
 have e0:bits .or .u64 0 (x0:Int)=(x0:Int):=by
  have:=bits_or_u64_nat 0 x0 (by omega) (by omega)
  rw [Nat.zero_or] at this
  exact this
 have e1:bits .or .u64 (x0:Int) ((x1:Int)*256)=((x0+x1*256:Nat):Int):=orN x0 x1 256 8 (by decide) (by omega) (by omega) (by omega)
 have e2:bits .or .u64 ((x0+x1*256:Nat):Int) ((x2:Int)*65536)=((x0+x1*256+x2*65536:Nat):Int):=orN _ x2 65536 16 (by decide) (by omega) (by omega) (by omega)
 have e3:bits .or .u64 ((x0+x1*256+x2*65536:Nat):Int) ((x3:Int)*16777216)=((x0+x1*256+x2*65536+x3*16777216:Nat):Int):=orN _ x3 16777216 24 (by decide) (by omega) (by omega) (by omega)
 have e4:bits .or .u64 ((x0+x1*256+x2*65536+x3*16777216:Nat):Int) ((x4:Int)*4294967296)=((x0+x1*256+x2*65536+x3*16777216+x4*4294967296:Nat):Int):=orN _ x4 4294967296 32 (by decide) (by omega) (by omega) (by omega)
 have e5:bits .or .u64 ((x0+x1*256+x2*65536+x3*16777216+x4*4294967296:Nat):Int) ((x5:Int)*1099511627776)=((x0+x1*256+x2*65536+x3*16777216+x4*4294967296+x5*1099511627776:Nat):Int):=orN _ x5 1099511627776 40 (by decide) (by omega) (by omega) (by omega)
 have e6:bits .or .u64 ((x0+x1*256+x2*65536+x3*16777216+x4*4294967296+x5*1099511627776:Nat):Int) ((x6:Int)*281474976710656)=((x0+x1*256+x2*65536+x3*16777216+x4*4294967296+x5*1099511627776+x6*281474976710656:Nat):Int):=orN _ x6 281474976710656 48 (by decide) (by omega) (by omega) (by omega)
 have e7:bits .or .u64 ((x0+x1*256+x2*65536+x3*16777216+x4*4294967296+x5*1099511627776+x6*281474976710656:Nat):Int) ((x7:Int)*72057594037927936)=((x0+x1*256+x2*65536+x3*16777216+x4*4294967296+x5*1099511627776+x6*281474976710656+x7*72057594037927936:Nat):Int):=orN _ x7 72057594037927936 56 (by decide) (by omega) (by omega) (by omega)
 rw [e0,e1,e2,e3,e4,e5,e6,e7]
 omega
theorem ret_int {k:IntKind} {a b:Int} (h:a=b):Ending.returned (.int k a)=.returned (.int k b):=by rw [h]
set_option maxHeartbeats 1000000 in
theorem get_any (s:ByteArray) (w:World) :
 Calls Tryz.prog 134 #[.string s] w fun e w'=>e=.returned (.int .u64 (getN s.data.toList:Int))∧Below w.heap.size w w':=by
 have hg:=getN_eq s.data.toList
 have c:=copy8 w s
 unfold cells8 at c
 have b0:=byteAt_lt s.data.toList 0
 have b1:=byteAt_lt s.data.toList 1
 have b2:=byteAt_lt s.data.toList 2
 have b3:=byteAt_lt s.data.toList 3
 have b4:=byteAt_lt s.data.toList 4
 have b5:=byteAt_lt s.data.toList 5
 have b6:=byteAt_lt s.data.toList 6
 have b7:=byteAt_lt s.data.toList 7
 generalize byteAt s.data.toList 0=x0 at *
 generalize byteAt s.data.toList 1=x1 at *
 generalize byteAt s.data.toList 2=x2 at *
 generalize byteAt s.data.toList 3=x3 at *
 generalize byteAt s.data.toList 4=x4 at *
 generalize byteAt s.data.toList 5=x5 at *
 generalize byteAt s.data.toList 6=x6 at *
 generalize byteAt s.data.toList 7=x7 at *
 generalize getN s.data.toList=g at *
 have G:=Lib.hid hg
 clear hg
 go_enter Tryz.func134,Tryz.ntmps134
 go_wp2
 refine wp_loop_rounds 9 ?_
 iterate 9 (rw [rounds_succ]; go_wp2_with fail)
 go_ret
 exact ⟨ret_int (by rw [G.out]; exact or8 x0 x1 x2 x3 x4 x5 x6 x7 b0 b1 b2 b3 b4 b5 b6 b7),(Below.refl _ _).alloc (Nat.le_refl _) _⟩
open Go.RowKit Go.Lib
theorem Ge.trans {a b c:World} (h:Below a.heap.size a b) (k:Below b.heap.size b c):Below a.heap.size a c:=h.trans (k.mono h.size)
theorem toL (l:List UInt8):(⟨l.toArray⟩:ByteArray).data.toList=l:=by simp
theorem put_size (n:Nat) (k:Nat):(⟨(putL n k).toArray⟩:ByteArray).size=k:=by
 rw [size_eq,toL,putL_length]
theorem put_at (n s:Int) (r:ByteArray) (w:World) (h0:0≤n) (h1:n<18446744073709551616) (hr:(⟨(putL n.toNat (clampN s)).toArray⟩:ByteArray)=r) :
 Calls Tryz.prog 137 #[.int .u64 n,.int .i64 s] w fun e w'=>e=.returned (.string r)∧Below w.heap.size w w':=by
 subst hr; exact put_any n s w h0 h1
theorem get_at (s:ByteArray) (r:Int) (w:World) (hr:(getN s.data.toList:Int)=r) :
 Calls Tryz.prog 134 #[.string s] w fun e w'=>e=.returned (.int .u64 r)∧Below w.heap.size w w':=by
 subst hr; exact get_any s w
open Go.RowKit Go.Lib
set_option linter.unusedVariables false
namespace R1
theorem size_any (s:Int) (w:World) :
 Calls Tryz.prog 173 #[.int .i64 s] w fun e w'=>e=.returned (.int .i64 (clampN s:Int))∧w=w':=by
 by_cases h:s<0
 ·rw [clampN_lo h]
  have h8:s<8:=by omega
  go_enter Tryz.func173,Tryz.ntmps173
  go_wp2
  go_ret
  exact ⟨rfl,rfl⟩
 by_cases h' : 8<s
 ·rw [clampN_hi h']
  go_enter Tryz.func173,Tryz.ntmps173
  go_wp2
  go_ret
  exact ⟨rfl,rfl⟩
 rw [clampN_in (by omega) (by omega),Int.toNat_of_nonneg (by omega)]
 have h2:s≤8:=by omega
 by_cases h0:s=0
 ·subst h0
  go_enter Tryz.func173,Tryz.ntmps173
  go_wp2
  go_ret
  exact ⟨rfl,rfl⟩
 have h1:0<s:=by omega
 clear h h' h0
 go_enter Tryz.func173,Tryz.ntmps173
 go_wp2
 go_ret
 exact ⟨rfl,rfl⟩
theorem putL_snoc:∀ (k n:Nat),putL n (k+1)=putL n k++[UInt8.ofNat (n / 256 ^ k%256)]
 | 0,n=>by simp [putL]
 | k+1,n=>by
   rw [putL,putL_snoc k (n / 256),putL,List.cons_append,Nat.pow_succ,Nat.mul_comm (256 ^ k) 256,Nat.div_div_eq_div_mul]
theorem conv1 (W:World) (x:Int) :
 (convert 97 9 (.slice (some ⟨W.heap.size,0,none⟩) 1 1)).run Tryz.prog (W.alloc (.cells #[.int .u8 x] 5)) =
  .ok (.string (strOfNums [x])) (W.alloc (.cells #[.int .u8 x] 5)):=by
 refine run_convert_bytes_arg _ 97 5 Tryz.underlying97 Tryz.underlying5 W.heap.size 0 1 1 [x] rfl (fun i hi=>?_) 9 Tryz.underlying9
 obtain rfl:i=0:=by omega
 simp [go_sem]
set_option maxHeartbeats 1000000 in
theorem put_any (n s:Int) (w:World) (h0:0≤n) (h1:n<18446744073709551616) :
 Calls Tryz.prog 145 #[.int .u64 n,.int .i64 s] w fun e w'=>e=.returned (.string ⟨(putL n.toNat (clampN s)).toArray⟩)∧Below w.heap.size w w':=by
 obtain ⟨n,rfl⟩:=Int.eq_ofNat_of_zero_le h0
 rw [Int.toNat_natCast]
 have hK:=clampN_le s
 have C:=Lib.hid (fun w=>size_any s w)
 generalize clampN s=K at *
 go_enter Tryz.func145,Tryz.ntmps145
 go_wp2_with fail
 go_loopg [0,5,6] 8 (fun gk s0 s5 s6 wr=>∃ k:Nat,k≤K∧gk=8-k∧s6=.int .i64 k∧s0=.int .u64 ((n / 256 ^ k:Nat):Int)∧s5=.string ⟨(putL n k).toArray⟩∧Below w.heap.size w wr)
 case atStart=>exact ⟨0,by omega,rfl,rfl,by simp,by simp [putL],Below.refl _ _⟩
 case round =>
  obtain ⟨k,hk,hgk,rfl,rfl,rfl,hb⟩:=hrel
  have HG:=Lib.hid hgk
  clear hgk
  have hs1:(⟨(putL n k).toArray⟩:ByteArray).size≤8:=by rw [put_size]; omega
  obtain ⟨m,M⟩:∃ m,Hid (n / 256 ^ k=m):=⟨_,rfl⟩
  have hm:m<18446744073709551616:=by
   rw [← M.out]
   exact Nat.lt_of_le_of_lt (Nat.div_le_self _ _) (by omega)
  have M2:Hid (n / 256 ^ (k+1)=m / 256):=by
   show n / 256 ^ (k+1)=m / 256
   rw [Nat.pow_succ,← Nat.div_div_eq_div_mul,M.out]
  have S2:Hid (putL n (k+1)=putL n k++[UInt8.ofNat (m%256)]):=by
   show putL n (k+1)=putL n k++[UInt8.ofNat (m%256)]
   rw [putL_snoc,M.out]
  rw [M.out]
  obtain ⟨t,T⟩:∃ t,Hid ((⟨(putL n k).toArray⟩:ByteArray)=t):=⟨_,rfl⟩
  rw [T.out] at hs1 ⊢
  have hmi:(m:Int)<18446744073709551616:=by omega
  clear hm
  by_cases hlt:k<K
  ·have hlti:(k:Int)<(K:Int):=by omega
   have hk8:(k:Int)<8:=by omega
   have c1:=conv1 wr ((m:Int)%256)
   obtain ⟨u,U⟩:∃ u,Hid (strOfNums [(m:Int)%256]=u):=⟨_,rfl⟩
   have hu:u.size≤1:=by rw [← U.out]; exact Nat.le_refl 1
   have J:Hid (t++u=⟨(putL n (k+1)).toArray⟩):=by
    show t++u=⟨(putL n (k+1)).toArray⟩
    rw [S2.out,← T.out,← U.out]
    have e:((m:Int)%256).toNat=m%256:=by omega
    apply ByteArray.ext
    rw [ByteArray.data_append]
    simp [strOfNums,e]
   rw [U.out] at c1
   go_wp2_with fail
   refine (C.out _).mono ?_
   rintro e w' ⟨rfl,rfl⟩
   go_wp2_with fail
   go_roundg (8-(k+1))
   case measure=>have:=HG.out; omega
   case rel=>exact ⟨k+1,by omega,rfl,by go_num,by rw [M2.out]; go_num,by rw [← J.out],hb.alloc hb.size _⟩
  ·obtain rfl:K=k:=by omega
   have hD:decide (K<K)=false:=by rw [decide_eq_false_iff_not]; omega
   clear hlt hk h1 hmi
   go_wp2_with fail
   refine (C.out _).mono ?_
   rintro e w' ⟨rfl,rfl⟩
   clear C
   go_wp2_with fail
   go_ret
   exact ⟨congrArg (fun b:ByteArray=>Ending.returned (.string b)) T.out.symm,hb⟩
theorem byte_step (l:List UInt8) (K j:Nat) (hj:j<K) (hK:K≤l.length):leN ((l.take K).drop j)=leN ((l.take K).drop (j+1))*256+byteAt l j:=by
 have hl:j<(l.take K).length:=by rw [List.length_take]; omega
 rw [List.drop_eq_getElem_cons hl,leN]
 have e:((l.take K)[j]).toNat=byteAt l j:=by
  rw [List.getElem_take]
  simp [byteAt,List.getElem?_eq_getElem (show j<l.length by omega)]
 rw [e]; omega
theorem byte_get (s:ByteArray) (j:Nat) (h:j<s.size):(s[j]'h).toNat=byteAt s.data.toList j:=by
 have h2:j<s.data.toList.length:=by rw [← size_eq]; exact h
 simp only [byteAt,List.getElem?_eq_getElem h2,Option.getD_some]
 rfl
def upV (l:List UInt8) (K:Nat) (j:Int):Int:=(leN ((l.take K).drop (j+1).toNat):Nat)
theorem upV_top (l:List UInt8) (K:Nat) (j:Int) (h:j+1=K):upV l K j=0:=by
 unfold upV
 have e:(j+1).toNat=K:=by omega
 rw [e,List.drop_of_length_le (by rw [List.length_take]; omega)]
 rfl
theorem upV_bd (l:List UInt8) (K m:Nat) (h:K≤m+8):0≤upV l K m∧upV l K m<72057594037927936:=by
 unfold upV
 have h2:=leN_lt_of (l:=(l.take K).drop ((m:Int)+1).toNat) (k:=7) (by
  have e:((m:Int)+1).toNat=m+1:=by omega
  rw [e,List.length_drop,List.length_take]; omega)
 omega
theorem upV_step (l:List UInt8) (K m:Nat) (h:m<K) (hK:K≤l.length):upV l K ((m:Int)-1)=upV l K m*256+(byteAt l m:Int):=by
 have e1:((m:Int)-1+1).toNat=m:=by omega
 have e2:((m:Int)+1).toNat=m+1:=by omega
 have h2:=byte_step l K m h hK
 unfold upV
 rw [e1,e2,h2]
 omega
theorem upV_end (l:List UInt8) (K:Nat):upV l K (-1)=(leN (l.take K):Nat):=rfl
set_option maxHeartbeats 1000000 in
theorem get_short (s:ByteArray) (w:World) (h:s.size≤8) :
 Calls Tryz.prog 149 #[.string s] w fun e w'=>e=.returned (.int .u64 (upV s.data.toList s.size (-1)))∧w=w':=by
 have hi:(s.size:Int)≤8:=by omega
 go_enter Tryz.func149,Tryz.ntmps149
 go_wp2_with fail
 go_loopg [3,4] 8 (fun gk s3 s4 wr=>∃ j:Int,-1≤j∧j+1≤(s.size:Int)∧(gk:Int)=j+1+(8-(s.size:Int))∧s4=.int .i64 j∧s3=.int .u64 (upV s.data.toList s.size j)∧w=wr)
 case atStart=>exact ⟨(s.size:Int)-1,by omega,by omega,by omega,rfl,by rw [upV_top _ _ _ (by omega)],rfl⟩
 case round =>
  obtain ⟨j,hj1,hj2,hgk,rfl,rfl,rfl⟩:=hrel
  have HG:=Lib.hid hgk
  clear hgk
  by_cases hj:0≤j
  ·obtain ⟨m,rfl⟩:=Int.eq_ofNat_of_zero_le hj
   have hm:m<s.size:=by omega
   have hmi:(m:Int)<(s.size:Int):=by omega
   obtain ⟨v0,v1⟩:=upV_bd s.data.toList s.size m (by omega)
   obtain ⟨x,hx⟩:∃ x,(s[m]'hm).toNat=x:=⟨_,rfl⟩
   have hx1:x<256:=by rw [← hx]; exact byte_lt _
   have hx2:(x:Int)<256:=by omega
   have N:Hid (upV s.data.toList s.size ((m:Int)-1)=upV s.data.toList s.size m*256+(x:Int)):=by
    rw [← hx,byte_get]
    exact upV_step s.data.toList s.size m (by omega) (by rw [← size_eq]; omega)
   generalize upV s.data.toList s.size (m:Int)=v at *
   go_wp2_with fail
   go_roundg (m+(8-s.size))
   case measure=>have:=HG.out; omega
   case rel=>exact ⟨(m:Int)-1,by omega,by omega,by omega,rfl,by rw [N.out],rfl⟩
  ·obtain rfl:j = -1:=by omega
   go_wp2_with fail
   go_ret
   exact ⟨rfl,rfl⟩
set_option maxHeartbeats 1000000 in
theorem get_long (s:ByteArray) (w:World) (h:8<s.size) :
 Calls Tryz.prog 149 #[.string s] w fun e w'=>e=.returned (.int .u64 (upV s.data.toList 8 (-1)))∧w=w':=by
 have hi:(8:Int)<(s.size:Int):=by omega
 go_enter Tryz.func149,Tryz.ntmps149
 go_wp2_with fail
 go_loopg [3,4] 8 (fun gk s3 s4 wr=>∃ j:Int,-1≤j∧j+1≤(8:Int)∧(gk:Int)=j+1+(8-(8:Int))∧s4=.int .i64 j∧s3=.int .u64 (upV s.data.toList 8 j)∧w=wr)
 case atStart=>exact ⟨7,by omega,by omega,by omega,rfl,by rw [upV_top _ _ _ (by omega)],rfl⟩
 case round =>
  obtain ⟨j,hj1,hj2,hgk,rfl,rfl,rfl⟩:=hrel
  have HG:=Lib.hid hgk
  clear hgk
  by_cases hj:0≤j
  ·obtain ⟨m,rfl⟩:=Int.eq_ofNat_of_zero_le hj
   have hm:m<s.size:=by omega
   have hmi:(m:Int)<(s.size:Int):=by omega
   obtain ⟨v0,v1⟩:=upV_bd s.data.toList 8 m (by omega)
   obtain ⟨x,hx⟩:∃ x,(s[m]'hm).toNat=x:=⟨_,rfl⟩
   have hx1:x<256:=by rw [← hx]; exact byte_lt _
   have hx2:(x:Int)<256:=by omega
   have N:Hid (upV s.data.toList 8 ((m:Int)-1)=upV s.data.toList 8 m*256+(x:Int)):=by
    rw [← hx,byte_get]
    exact upV_step s.data.toList 8 m (by omega) (by rw [← size_eq]; omega)
   generalize upV s.data.toList 8 (m:Int)=v at *
   go_wp2_with fail
   go_roundg (m+(8-8))
   case measure=>have:=HG.out; omega
   case rel=>exact ⟨(m:Int)-1,by omega,by omega,by omega,rfl,by rw [N.out],rfl⟩
  ·obtain rfl:j = -1:=by omega
   go_wp2_with fail
   go_ret
   exact ⟨rfl,rfl⟩
theorem get_any (s:ByteArray) (w:World) :
 Calls Tryz.prog 149 #[.string s] w fun e w'=>e=.returned (.int .u64 (getN s.data.toList:Int))∧w=w':=by
 by_cases h:s.size≤8
 ·have c:=get_short s w h
  rw [upV_end,size_eq,List.take_of_length_le (Nat.le_refl _)] at c
  unfold getN
  rw [List.take_of_length_le (by rw [← size_eq]; exact h)]
  exact c
 ·exact get_long s w (by omega)
end R1
end Go.Proofs.YtdpmjlbkojhooaaGreat.Wd
