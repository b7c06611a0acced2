/- A part. -/
import Derived.Test.YtcnohlgigmmefaaGreatRows
import Derived.WalkKit
import Derived.WalkSpells
import Derived.WalkLawsBesides
import Derived.Lib.Mul64
import Derived.Laws.Bits64b
import Derived.Laws.Externs
import Derived.Lib.Hide
import Derived.LoopN
import Derived.Laws.BytesArg
import Derived.Lib.BufferWrite
import Derived.Deep.LoopGhost
import Derived.WalkSmall
namespace Go.Proofs.YtcnohlgigmmefaaGreat.Wd
open Go.RowKit Go.Lib
set_option linter.unusedVariables false
set_option maxRecDepth 100000
open Go.RowKit Go.Lib
theorem within_lo (n:Int) (w:World) (h:n<0) :
 Calls Tryz.prog 208 #[.int .i64 n] w fun e w'=>e=.returned (.int .i64 0)∧w=w':=by
 go_enter Tryz.func208,Tryz.ntmps208
 go_wp2
 go_ret
 exact ⟨rfl,rfl⟩
theorem within_hi (n:Int) (w:World) (h:8<n) :
 Calls Tryz.prog 208 #[.int .i64 n] w fun e w'=>e=.returned (.int .i64 8)∧w=w':=by
 go_enter Tryz.func208,Tryz.ntmps208
 go_wp2
 go_ret
 exact ⟨rfl,rfl⟩
theorem within_in (n:Int) (w:World) (h:0≤n) (h8:n≤8) :
 Calls Tryz.prog 208 #[.int .i64 n] w fun e w'=>e=.returned (.int .i64 n)∧w=w':=by
 go_enter Tryz.func208,Tryz.ntmps208
 go_wp2
 go_ret
 exact ⟨rfl,rfl⟩
namespace M64
theorem maskN (a:Nat) (ha:a<18446744073709551616):bits .and .u64 (a:Int) 4294967295=((a%4294967296:Nat):Int):=by
 have h:=bits_and_u64_nat a 4294967295 ha (by omega)
 have e:a &&& 4294967295=a%4294967296:=Nat.and_two_pow_sub_one_eq_mod a 32
 rw [e] at h
 exact h
theorem divN (a:Nat):(a:Int) / 4294967296=((a / 4294967296:Nat):Int):=by omega
theorem mulN (a b:Nat):(a:Int)*(b:Int)=((a*b:Nat):Int):=(Int.natCast_mul a b).symm
theorem addN (a b:Nat):(a:Int)+(b:Int)=((a+b:Nat):Int):=(Int.natCast_add a b).symm
theorem wrapN (a:Nat) (ha:a<18446744073709551616):IntKind.u64.wrap (a:Int)=(a:Int):=by rw [IntKind.wrap_u64]; omega
theorem wrapM (a:Nat):IntKind.u64.wrap (a:Int)=((a%18446744073709551616:Nat):Int):=by rw [IntKind.wrap_u64]; omega
end M64
set_option maxHeartbeats 1000000 in
theorem mul64 (x y:Nat) (hx:x<18446744073709551616) (hy:y<18446744073709551616) (w:World) :
 Calls Tryz.prog 186 #[.int .u64 x,.int .u64 y] w fun e w'=>e=.returned (.tuple #[.int .u64 ((x*y / 18446744073709551616:Nat):Int),.int .u64 ((x*y%18446744073709551616:Nat):Int)])∧w=w':=by
 obtain ⟨bd,bt,bw,hhi⟩:=Lib.mul64_hi x y hx hy
 have ba:=Lib.half_mul_le (a:=x / 4294967296) (b:=y / 4294967296) (by omega) (by omega)
 have bb:=Lib.half_mul_le (a:=x / 4294967296) (b:=y%4294967296) (by omega) (by omega)
 have bc:=Lib.half_mul_le (a:=x%4294967296) (b:=y / 4294967296) (by omega) (by omega)
 have ba' : x / 4294967296*(y / 4294967296)<18446744073709551616:=by omega
 have bb' : x / 4294967296*(y%4294967296)<18446744073709551616:=by omega
 have bc' : x%4294967296*(y / 4294967296)<18446744073709551616:=by omega
 have bh1:x / 4294967296*(y / 4294967296)+(x / 4294967296*(y%4294967296)+x%4294967296*(y%4294967296) / 4294967296) / 4294967296<18446744073709551616:=by omega
 have bh:x / 4294967296*(y / 4294967296)+(x / 4294967296*(y%4294967296)+x%4294967296*(y%4294967296) / 4294967296) / 4294967296+((x / 4294967296*(y%4294967296)+x%4294967296*(y%4294967296) / 4294967296)%4294967296+x%4294967296*(y / 4294967296)) / 4294967296<18446744073709551616:=by omega
 go_enter Tryz.func186,Tryz.ntmps186
 go_wp2
 simp only [M64.maskN x hx,M64.maskN y hy,M64.divN,M64.mulN,M64.addN,M64.wrapN _ bd,M64.wrapN _ bb',M64.wrapN _ bt,M64.maskN _ bt,M64.wrapN _ bc',M64.wrapN _ bw,M64.wrapN _ ba',M64.wrapN _ bh1,M64.wrapN _ bh,M64.wrapM (x*y)]
 rw [hhi]
 go_ret2
 exact ⟨rfl,rfl⟩
def putL:Nat→Nat→List UInt8
 | _,0=>[]
 | n,k+1=>UInt8.ofNat (n%256) :: putL (n / 256) k
def leN:List UInt8→Nat
 | []=>0
 | b :: r=>b.toNat+256*leN r
theorem putL_length:∀ (k n:Nat),(putL n k).length=k
 | 0,_=>rfl
 | k+1,n=>by simp [putL,putL_length k]
theorem toNat_ofNat_mod (n:Nat):(UInt8.ofNat (n%256)).toNat=n%256:=by
 simp
theorem leN_putL:∀ (k n:Nat),leN (putL n k)=n%256 ^ k
 | 0,n=>by simp [putL,leN,Nat.mod_one]
 | k+1,n=>by
   rw [putL,leN,leN_putL k,toNat_ofNat_mod,Nat.pow_succ,Nat.mul_comm (256 ^ k) 256,Nat.mod_mul]
theorem byte_lt (b:UInt8):b.toNat<256:=b.toNat_lt
theorem leN_lt:∀ (l:List UInt8),leN l<256 ^ l.length
 | []=>by simp [leN]
 | b :: r=>by
   have h:=leN_lt r
   have hb:=byte_lt b
   rw [leN,List.length_cons,Nat.pow_succ]
   omega
theorem leN_lt_of {l:List UInt8} {k:Nat} (h:l.length≤k):leN l<256 ^ k :=
 Nat.lt_of_lt_of_le (leN_lt l) (Nat.pow_le_pow_right (by omega) h)
theorem putL_leN:∀ (l:List UInt8),putL (leN l) l.length=l
 | []=>rfl
 | b :: r=>by
   have hb:=byte_lt b
   have e1:(leN (b :: r))%256=b.toNat:=by rw [leN]; omega
   have e2:(leN (b :: r)) / 256=leN r:=by rw [leN]; omega
   rw [List.length_cons,putL,e1,e2,putL_leN r]
   simp
theorem leN_append:∀ (a b:List UInt8),leN (a++b)=leN a+256 ^ a.length*leN b
 | [],b=>by simp [leN]
 | x :: a,b=>by
   rw [List.cons_append,leN,leN_append a b,leN,List.length_cons,Nat.pow_succ,Nat.mul_add,Nat.add_assoc,Nat.mul_comm (256 ^ a.length) 256,Nat.mul_assoc]
theorem leN_zeros:∀ (k:Nat),leN (List.replicate k 0)=0
 | 0=>rfl
 | k+1=>by rw [List.replicate_succ,leN,leN_zeros k]; rfl
def clampN (s:Int):Nat:=if s<0 then 0 else if 8<s then 8 else s.toNat
theorem clampN_le (s:Int):clampN s≤8:=by unfold clampN; split <;> (try split) <;> omega
theorem clampN_lo {s:Int} (h:s<0):clampN s=0:=by unfold clampN; rw [if_pos h]
theorem clampN_hi {s:Int} (h:8<s):clampN s=8:=by unfold clampN; rw [if_neg (by omega),if_pos h]
theorem clampN_in {s:Int} (h:0≤s) (h' : s≤8):clampN s=s.toNat:=by unfold clampN; rw [if_neg (by omega),if_neg (by omega)]
def getN (l:List UInt8):Nat:=leN (l.take 8)
theorem getN_lt (l:List UInt8):getN l<18446744073709551616:=by
 have h:=leN_lt_of (l:=l.take 8) (k:=8) (by simp; omega)
 unfold getN; omega
def byteAt (l:List UInt8) (i:Nat):Nat:=(l[i]?.getD 0).toNat
theorem byteAt_lt (l:List UInt8) (i:Nat):byteAt l i<256:=byte_lt _
theorem leN_take_succ (l:List UInt8) (k:Nat):leN (l.take (k+1))=leN (l.take k)+256 ^ k*byteAt l k:=by
 rcases Nat.lt_or_ge k l.length with h|h
 ·rw [List.take_succ_eq_append_getElem h,leN_append]
  have e:(l.take k).length=k:=by simp; omega
  rw [e]
  simp [byteAt,leN,List.getElem?_eq_getElem h]
 ·rw [List.take_of_length_le h,List.take_of_length_le (by omega)]
  simp [byteAt,List.getElem?_eq_none h]
theorem getN_eq (l:List UInt8):getN l=byteAt l 0+256*byteAt l 1+65536*byteAt l 2+16777216*byteAt l 3+4294967296*byteAt l 4+1099511627776*byteAt l 5+281474976710656*byteAt l 6+72057594037927936*byteAt l 7:=by
 unfold getN
 rw [leN_take_succ,leN_take_succ,leN_take_succ,leN_take_succ,leN_take_succ,leN_take_succ,leN_take_succ,leN_take_succ]
 simp [leN]
open Go.RowKit Go.Lib
theorem cell8 (w:World) (x0 x1 x2 x3 x4 x5 x6 x7:Int) (i:Nat) (h:i<8) :
 (w.alloc (.cells #[.int .u8 x0,.int .u8 x1,.int .u8 x2,.int .u8 x3,.int .u8 x4,.int .u8 x5,.int .u8 x6,.int .u8 x7] 269)).cell? ⟨w.heap.size,0+i,none⟩=some (.int .u8 ([x0,x1,x2,x3,x4,x5,x6,x7].getD i 0)):=by
 match i,h with
 | 0,_=>simp [go_sem]
 | 1,_=>simp [go_sem]
 | 2,_=>simp [go_sem]
 | 3,_=>simp [go_sem]
 | 4,_=>simp [go_sem]
 | 5,_=>simp [go_sem]
 | 6,_=>simp [go_sem]
 | 7,_=>simp [go_sem]
theorem conv8 (w:World) (x0 x1 x2 x3 x4 x5 x6 x7:Int) (k:Nat) (h:k≤8) :
 (convert 115 9 (.slice (some ⟨w.heap.size,0,none⟩) k k)).run Tryz.prog (w.alloc (.cells #[.int .u8 x0,.int .u8 x1,.int .u8 x2,.int .u8 x3,.int .u8 x4,.int .u8 x5,.int .u8 x6,.int .u8 x7] 269)) =
  .ok (.string (strOfNums ([x0,x1,x2,x3,x4,x5,x6,x7].take k))) (w.alloc (.cells #[.int .u8 x0,.int .u8 x1,.int .u8 x2,.int .u8 x3,.int .u8 x4,.int .u8 x5,.int .u8 x6,.int .u8 x7] 269)):=by
 refine run_convert_bytes_arg _ 115 5 Tryz.underlying115 Tryz.underlying5 w.heap.size 0 k k _ (by simp; omega) (fun i hi=>?_) 9 Tryz.underlying9
 rw [cell8 w _ _ _ _ _ _ _ _ i (by omega)]
 congr 2
 rw [List.getD_eq_getElem?_getD,List.getD_eq_getElem?_getD,List.getElem?_take_of_lt hi]
theorem put_str (n:Int) (k:Nat) (h0:0≤n) (h1:n<18446744073709551616) (hk:k≤8) :
 strOfNums ([n%256,n / 256%256,n / 256 / 256%256,n / 256 / 256 / 256%256,n / 256 / 256 / 256 / 256%256,n / 256 / 256 / 256 / 256 / 256%256,n / 256 / 256 / 256 / 256 / 256 / 256%256,n / 256 / 256 / 256 / 256 / 256 / 256 / 256].take k)=⟨(putL n.toNat k).toArray⟩:=by
 obtain ⟨n,rfl⟩:=Int.eq_ofNat_of_zero_le h0
 have e1:((n:Int)%256).toNat=n%256:=by omega
 have e2:((n:Int) / 256%256).toNat=n / 256%256:=by omega
 have e3:((n:Int) / 256 / 256%256).toNat=n / 256 / 256%256:=by omega
 have e4:((n:Int) / 256 / 256 / 256%256).toNat=n / 256 / 256 / 256%256:=by omega
 have e5:((n:Int) / 256 / 256 / 256 / 256%256).toNat=n / 256 / 256 / 256 / 256%256:=by omega
 have e6:((n:Int) / 256 / 256 / 256 / 256 / 256%256).toNat=n / 256 / 256 / 256 / 256 / 256%256:=by omega
 have e7:((n:Int) / 256 / 256 / 256 / 256 / 256 / 256%256).toNat=n / 256 / 256 / 256 / 256 / 256 / 256%256:=by omega
 have e8:((n:Int) / 256 / 256 / 256 / 256 / 256 / 256 / 256).toNat=n / 256 / 256 / 256 / 256 / 256 / 256 / 256%256:=by omega
 have key:([(n:Int)%256,n / 256%256,n / 256 / 256%256,n / 256 / 256 / 256%256,n / 256 / 256 / 256 / 256%256,n / 256 / 256 / 256 / 256 / 256%256,n / 256 / 256 / 256 / 256 / 256 / 256%256,n / 256 / 256 / 256 / 256 / 256 / 256 / 256].map fun x=>UInt8.ofNat x.toNat)=putL n 8:=by
  simp only [List.map_cons,List.map_nil,e1,e2,e3,e4,e5,e6,e7,e8,putL]
 have hp:∀ (k j n:Nat),k≤j→(putL n j).take k=putL n k:=by
  intro k
  induction k with
  | zero=>intro j n _; simp [putL]
  | succ k ih =>
    intro j n hj
    match j,hj with
    | j+1,hj=>rw [putL,putL,List.take_succ_cons,ih j _ (by omega)]
 unfold strOfNums
 rw [List.map_take,key,hp k 8 n hk,Int.toNat_natCast]
theorem within_any (s:Int) (w:World) :
 Calls Tryz.prog 208 #[.int .i64 s] w fun e w'=>e=.returned (.int .i64 (clampN s:Int))∧w=w':=by
 by_cases h:s<0
 ·rw [clampN_lo h]; exact within_lo s w h
 by_cases h' : 8<s
 ·rw [clampN_hi h']; exact within_hi s w h'
 rw [clampN_in (by omega) (by omega),Int.toNat_of_nonneg (by omega)]
 exact within_in s w (by omega) (by omega)
set_option maxHeartbeats 1000000 in
theorem put_any (n s:Int) (w:World) (h0:0≤n) (h1:n<18446744073709551616) :
 Calls Tryz.prog 193 #[.int .u64 n,.int .i64 s] w fun e w'=>e=.returned (.string ⟨(putL n.toNat (clampN s)).toArray⟩)∧Below w.heap.size w w':=by
 have hk:=clampN_le s
 have C:=Lib.hid (fun w=>within_any s w)
 generalize clampN s=k at *
 have hs0:0≤(k:Int):=by omega
 have hs8:(k:Int)≤8:=by omega
 have E:=Lib.hid (put_str n k h0 h1 hk)
 have c:=conv8 w (n%256) (n / 256%256) (n / 256 / 256%256) (n / 256 / 256 / 256%256) (n / 256 / 256 / 256 / 256%256) (n / 256 / 256 / 256 / 256 / 256%256) (n / 256 / 256 / 256 / 256 / 256 / 256%256) (n / 256 / 256 / 256 / 256 / 256 / 256 / 256) k hk
 rw [E.out] at c
 clear E
 generalize (⟨(putL n.toNat k).toArray⟩:ByteArray)=r at *
 go_enter Tryz.func193,Tryz.ntmps193
 go_wp2
 refine wp_loop_rounds 9 ?_
 iterate 9 (rw [rounds_succ]; go_wp2_with fail)
 refine (C.out _).mono ?_
 rintro e w' ⟨rfl,rfl⟩
 go_wp2
 go_ret
 exact ⟨rfl,(Below.refl _ _).alloc (Nat.le_refl _) _⟩
def cells8 (l:List UInt8):Array Value:=#[.int .u8 (byteAt l 0:Int),.int .u8 (byteAt l 1:Int),.int .u8 (byteAt l 2:Int),.int .u8 (byteAt l 3:Int),.int .u8 (byteAt l 4:Int),.int .u8 (byteAt l 5:Int),.int .u8 (byteAt l 6:Int),.int .u8 (byteAt l 7:Int)]
theorem cells8_eq (l:List UInt8):(byteCells (l.take 8)++([.int .u8 0,.int .u8 0,.int .u8 0,.int .u8 0,.int .u8 0,.int .u8 0,.int .u8 0,.int .u8 0]:List Value).drop (min l.length 8)).toArray=cells8 l:=by
 match l with
 | []=>rfl
 | [_]=>rfl
 | [_,_]=>rfl
 | [_,_,_]=>rfl
 | [_,_,_,_]=>rfl
 | [_,_,_,_,_]=>rfl
 | [_,_,_,_,_,_]=>rfl
 | [_,_,_,_,_,_,_]=>rfl
 | _ :: _ :: _ :: _ :: _ :: _ :: _ :: _ :: r =>
   have e:min (r.length+1+1+1+1+1+1+1+1) 8=8:=by omega
   simp only [List.length_cons,e]
   rfl
theorem setRow_new (w:World) (cs ds:Array Value) (t:TypeId):(w.alloc (.cells cs t)).setRow w.heap.size ds=w.alloc (.cells ds t):=by
 unfold World.setRow World.alloc
 congr 1
 apply Array.ext
 ·simp
 ·intro i h1 h2
  simp only [Array.getElem_modify,Array.getElem_push]
  split <;> split <;> first|rfl|(simp_all; omega)|simp_all
theorem heap_new (w:World) (o:Obj):(w.alloc o).heap[w.heap.size]? = some o:=by
 show (w.heap.push o)[w.heap.size]? = some o
 simp
theorem copy8 (w:World) (s:ByteArray) :
 (Builtin.copy_ #[115,9] 3 #[.slice (some ⟨w.heap.size,0,none⟩) 8 8,.string s]).run Tryz.prog
  (w.alloc (.cells #[.int .u8 0,.int .u8 0,.int .u8 0,.int .u8 0,.int .u8 0,.int .u8 0,.int .u8 0,.int .u8 0] 269)) =
  .ok (goInt (Nat.min s.size 8)) (w.alloc (.cells (cells8 s.data.toList) 269)):=by
 have hlen:(byteCells (s.data.toList.take 8)).length=Nat.min s.size 8:=by rw [byteCells_length,List.length_take,← size_eq,Nat.min_comm]
 have hst:=run_storeCells_at Tryz.prog w.heap.size 0 269 (byteCells (s.data.toList.take 8)) 0 #[.int .u8 0,.int .u8 0,.int .u8 0,.int .u8 0,.int .u8 0,.int .u8 0,.int .u8 0,.int .u8 0] (w.alloc (.cells #[.int .u8 0,.int .u8 0,.int .u8 0,.int .u8 0,.int .u8 0,.int .u8 0,.int .u8 0,.int .u8 0] 269)) (heap_new w _) (by rw [hlen]; have:Nat.min s.size 8≤8:=Nat.min_le_right _ _; simp; omega) (byteCells_one _)
 have htk:List.take (Nat.min s.size 8) (List.map (fun b:UInt8=>Value.int IntKind.u8 (b.toNat:Int)) s.data.toList)=byteCells (s.data.toList.take 8):=by
  have e:Nat.min s.size 8=min 8 (List.map (fun b:UInt8=>Value.int IntKind.u8 (b.toNat:Int)) s.data.toList).length:=by rw [List.length_map,← size_eq,Nat.min_comm]
  rw [e,byteCells,List.map_take,List.take_eq_take_iff]
  omega
 rw [hlen] at hst
 have hz:∀ w,(Go.sizeOf 5).run Tryz.prog w=.ok 1 w:=by
  intro w; rfl
 simp [Builtin.copy_,run_underlying Tryz.underlying115,Builtin.lenOf,Builtin.firstCells,hz]
 rw [htk,hst]
 rw [setRow_new]
 have hc:=cells8_eq s.data.toList
 rw [← size_eq] at hc
 have e2:(List.take (0+0) (#[Value.int .u8 0,.int .u8 0,.int .u8 0,.int .u8 0,.int .u8 0,.int .u8 0,.int .u8 0,.int .u8 0]:Array Value).toList++byteCells (s.data.toList.take 8)++List.drop (0+0+Nat.min s.size 8) (#[Value.int .u8 0,.int .u8 0,.int .u8 0,.int .u8 0,.int .u8 0,.int .u8 0,.int .u8 0,.int .u8 0]:Array Value).toList).toArray=cells8 s.data.toList:=by
  rw [← hc,Nat.add_zero,Nat.zero_add,List.take_zero,List.nil_append]
 rw [e2]
 rfl
theorem orN (a x M i:Nat) (hM:M=2 ^ i) (ha:a<M) (hx:x*M<18446744073709551616) (h:a+x*M<18446744073709551616) :
 bits .or .u64 (a:Int) ((x:Int)*(M:Int))=((a+x*M:Nat):Int):=by
 rw [← Int.natCast_mul,bits_or_u64_nat a (x*M) (by omega) hx]
 congr 1
 subst hM
 rw [← Nat.shiftLeft_eq,Nat.or_comm,← Nat.shiftLeft_add_eq_or_of_lt ha,Nat.add_comm]
theorem or8 (x0 x1 x2 x3 x4 x5 x6 x7:Nat) (b0:x0<256) (b1:x1<256) (b2:x2<256) (b3:x3<256) (b4:x4<256) (b5:x5<256) (b6:x6<256) (b7:x7<256) :
 bits .or .u64 (bits .or .u64 (bits .or .u64 (bits .or .u64 (bits .or .u64 (bits .or .u64 (bits .or .u64 (bits .or .u64 0 (x0:Int)) ((x1:Int)*256)) ((x2:Int)*65536)) ((x3:Int)*16777216)) ((x4:Int)*4294967296)) ((x5:Int)*1099511627776)) ((x6:Int)*281474976710656)) ((x7:Int)*72057594037927936) =
  ((x0+256*x1+65536*x2+16777216*x3+4294967296*x4+1099511627776*x5+281474976710656*x6+72057594037927936*x7:Nat):Int):=by
 have e0:bits .or .u64 0 (x0:Int)=(x0:Int):=by
  have:=bits_or_u64_nat 0 x0 (by omega) (by omega)
  rw [Nat.zero_or] at this
  exact this
 have e1:bits .or .u64 (x0:Int) ((x1:Int)*256)=((x0+x1*256:Nat):Int):=orN x0 x1 256 8 (by decide) (by omega) (by omega) (by omega)
 have e2:bits .or .u64 ((x0+x1*256:Nat):Int) ((x2:Int)*65536)=((x0+x1*256+x2*65536:Nat):Int):=orN _ x2 65536 16 (by decide) (by omega) (by omega) (by omega)
 have e3:bits .or .u64 ((x0+x1*256+x2*65536:Nat):Int) ((x3:Int)*16777216)=((x0+x1*256+x2*65536+x3*16777216:Nat):Int):=orN _ x3 16777216 24 (by decide) (by omega) (by omega) (by omega)
 have e4:bits .or .u64 ((x0+x1*256+x2*65536+x3*16777216:Nat):Int) ((x4:Int)*4294967296)=((x0+x1*256+x2*65536+x3*16777216+x4*4294967296:Nat):Int):=orN _ x4 4294967296 32 (by decide) (by omega) (by omega) (by omega)
 have e5:bits .or .u64 ((x0+x1*256+x2*65536+x3*16777216+x4*4294967296:Nat):Int) ((x5:Int)*1099511627776)=((x0+x1*256+x2*65536+x3*16777216+x4*4294967296+x5*1099511627776:Nat):Int):=orN _ x5 1099511627776 40 (by decide) (by omega) (by omega) (by omega)
 have e6:bits .or .u64 ((x0+x1*256+x2*65536+x3*16777216+x4*4294967296+x5*1099511627776:Nat):Int) ((x6:Int)*281474976710656)=((x0+x1*256+x2*65536+x3*16777216+x4*4294967296+x5*1099511627776+x6*281474976710656:Nat):Int):=orN _ x6 281474976710656 48 (by decide) (by omega) (by omega) (by omega)
 have e7:bits .or .u64 ((x0+x1*256+x2*65536+x3*16777216+x4*4294967296+x5*1099511627776+x6*281474976710656:Nat):Int) ((x7:Int)*72057594037927936)=((x0+x1*256+x2*65536+x3*16777216+x4*4294967296+x5*1099511627776+x6*281474976710656+x7*72057594037927936:Nat):Int):=orN _ x7 72057594037927936 56 (by decide) (by omega) (by omega) (by omega)
 rw [e0,e1,e2,e3,e4,e5,e6,e7]
 omega
theorem ret_int {k:IntKind} {a b:Int} (h:a=b):Ending.returned (.int k a)=.returned (.int k b):=by rw [h]
set_option maxHeartbeats 1000000 in
theorem get_any (s:ByteArray) (w:World) :
 Calls Tryz.prog 190 #[.string s] w fun e w'=>e=.returned (.int .u64 (getN s.data.toList:Int))∧Below w.heap.size w w':=by
 have hg:=getN_eq s.data.toList
 have c:=copy8 w s
 unfold cells8 at c
 have b0:=byteAt_lt s.data.toList 0
 have b1:=byteAt_lt s.data.toList 1
 have b2:=byteAt_lt s.data.toList 2
 have b3:=byteAt_lt s.data.toList 3
 have b4:=byteAt_lt s.data.toList 4
 have b5:=byteAt_lt s.data.toList 5
 have b6:=byteAt_lt s.data.toList 6
 have b7:=byteAt_lt s.data.toList 7
 generalize byteAt s.data.toList 0=x0 at *
 generalize byteAt s.data.toList 1=x1 at *
 generalize byteAt s.data.toList 2=x2 at *
 generalize byteAt s.data.toList 3=x3 at *
 generalize byteAt s.data.toList 4=x4 at *
 generalize byteAt s.data.toList 5=x5 at *
 generalize byteAt s.data.toList 6=x6 at *
 generalize byteAt s.data.toList 7=x7 at *
 generalize getN s.data.toList=g at *
 have G:=Lib.hid hg
 clear hg
 go_enter Tryz.func190,Tryz.ntmps190
 go_wp2
 refine wp_loop_rounds 9 ?_
 iterate 9 (rw [rounds_succ]; go_wp2_with fail)
 go_ret
 exact ⟨ret_int (by rw [G.out]; exact or8 x0 x1 x2 x3 x4 x5 x6 x7 b0 b1 b2 b3 b4 b5 b6 b7),(Below.refl _ _).alloc (Nat.le_refl _) _⟩
open Go.RowKit Go.Lib
theorem Ge.trans {a b c:World} (h:Below a.heap.size a b) (k:Below b.heap.size b c):Below a.heap.size a c:=h.trans (k.mono h.size)
theorem toL (l:List UInt8):(⟨l.toArray⟩:ByteArray).data.toList=l:=by simp
theorem put_size (n:Nat) (k:Nat):(⟨(putL n k).toArray⟩:ByteArray).size=k:=by
 rw [size_eq,toL,putL_length]
theorem put_at (n s:Int) (r:ByteArray) (w:World) (h0:0≤n) (h1:n<18446744073709551616) (hr:(⟨(putL n.toNat (clampN s)).toArray⟩:ByteArray)=r) :
 Calls Tryz.prog 193 #[.int .u64 n,.int .i64 s] w fun e w'=>e=.returned (.string r)∧Below w.heap.size w w':=by
 subst hr; exact put_any n s w h0 h1
theorem get_at (s:ByteArray) (r:Int) (w:World) (hr:(getN s.data.toList:Int)=r) :
 Calls Tryz.prog 190 #[.string s] w fun e w'=>e=.returned (.int .u64 r)∧Below w.heap.size w w':=by
 subst hr; exact get_any s w
open Go.RowKit Go.Lib
set_option linter.unusedVariables false
namespace R1
end R1
end Go.Proofs.YtcnohlgigmmefaaGreat.Wd
