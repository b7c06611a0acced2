/- A part. -/
import Derived.Test.YtcnohlgigmmefaaGreatRows
import Derived.Laws.FloatArith
import Derived.WalkKit
import Derived.WalkSpells
import Derived.WalkLawsBesides
import Derived.Laws.Bits64b
import Derived.Laws.Externs
import Derived.Lib.Hide
import Derived.IntWalk
import Derived.Deep.LoopGhost
import Derived.WalkSmall
import Derived.Lib.Strings
import Derived.LoopN
namespace Go.Proofs.YtcnohlgigmmefaaGreat.Ck
open Go.RowKit Go.Lib
set_option linter.unusedVariables false
set_option maxRecDepth 100000
namespace Flt
open Ieee
theorem sw:double.signWeight=9223372036854775808:=rfl
theorem bn:double.binade=4503599627370496:=rfl
theorem ir:double.infRung=9218868437227405312:=rfl
theorem lp:double.leastPlace = -1074:=rfl
def val (r:Nat):Nat:=if r<4503599627370496 then r else (4503599627370496+r%4503599627370496)*2 ^ (r / 4503599627370496-1)
theorem val_lo {r:Nat} (h:r<4503599627370496):val r=r:=if_pos h
theorem val_hi {r:Nat} (h:4503599627370496≤r):val r=(4503599627370496+r%4503599627370496)*2 ^ (r / 4503599627370496-1):=if_neg (by omega)
theorem val_zero:val 0=0:=rfl
theorem val_lt {r s:Nat} (h:r<s):val r<val s:=by
 by_cases hs:s<4503599627370496
 ·rw [val_lo hs,val_lo (by omega)]; exact h
 rw [val_hi (r:=s) (by omega)]
 by_cases hr:r<4503599627370496
 ·rw [val_lo hr]
  have h1:1≤2 ^ (s / 4503599627370496-1):=Nat.one_le_two_pow
  have h2:=Nat.mul_le_mul (Nat.le_add_right 4503599627370496 (s%4503599627370496)) h1
  omega
 rw [val_hi (r:=r) (by omega)]
 by_cases he:r / 4503599627370496=s / 4503599627370496
 ·rw [he]
  exact Nat.mul_lt_mul_of_pos_right (by omega) (Nat.two_pow_pos _)
 ·have hlt:r / 4503599627370496<s / 4503599627370496:=by omega
  have e1:2 ^ (s / 4503599627370496-1)=2 ^ (r / 4503599627370496-1)*2 ^ (s / 4503599627370496-r / 4503599627370496):=by
   rw [← Nat.pow_add]; congr 1; omega
  have h2:2≤2 ^ (s / 4503599627370496-r / 4503599627370496):=by
   have:=Nat.pow_le_pow_right (n:=2) (by omega) (show 1≤s / 4503599627370496-r / 4503599627370496 by omega)
   simpa using this
  rw [e1]
  have hp:0<2 ^ (r / 4503599627370496-1):=Nat.two_pow_pos _
  generalize 2 ^ (r / 4503599627370496-1)=P at *
  generalize 2 ^ (s / 4503599627370496-r / 4503599627370496)=Q at *
  calc (4503599627370496+r%4503599627370496)*P<(4503599627370496*2)*P:=Nat.mul_lt_mul_of_pos_right (by omega) hp
   _=4503599627370496*(P*2):=by rw [Nat.mul_assoc,Nat.mul_comm 2 P]
   _≤(4503599627370496+s%4503599627370496)*(P*Q):=Nat.mul_le_mul (by omega) (Nat.mul_le_mul_left _ h2)
theorem val_lt_iff {r s:Nat}:val r<val s↔r<s:=by
 refine ⟨fun h=>?_,val_lt⟩
 by_cases h1:r<s
 ·exact h1
 by_cases h2:r=s
 ·subst h2; omega
 ·have:=val_lt (show s<r by omega); omega
abbrev sgn (b:Nat):Bool:=b / 9223372036854775808%2 == 1
def key (b:Nat):Int:=if b<9223372036854775808 then (b:Int) else 9223372036854775808-(b:Int)
theorem key_spec (b:Nat):(b<9223372036854775808∧key b=b)∨(9223372036854775808≤b∧key b=9223372036854775808-(b:Int)):=by
 unfold key; split <;> omega
theorem sgn_spec (b:Nat) (h:b<18446744073709551616):sgn b=decide (9223372036854775808≤b):=by
 unfold sgn; rw [Bool.eq_iff_iff]; simp; omega
theorem read_num (b:Nat) (h:b%9223372036854775808<9218868437227405312):∃ (m:Nat) (i:Int),double.read b=.number (sgn b) m i∧-1074≤i∧m*2 ^ (i+1074).toNat=val (b%9223372036854775808):=by
 unfold Format.read
 simp only [sw,bn,ir,lp]
 by_cases h1:b%9223372036854775808<4503599627370496
 ·refine ⟨_,_,if_pos h1,by omega,?_⟩
  rw [val_lo h1]
  simp
 ·refine ⟨_,_,(if_neg h1).trans (if_pos h),by omega,?_⟩
  rw [val_hi (by omega)]
  congr 2
  omega
theorem read_inf (b:Nat) (h:(b%9223372036854775808)=9218868437227405312):double.read b=.infinity (sgn b):=by
 unfold Format.read
 simp only [sw,bn,ir,lp]
 exact (if_neg (by omega)).trans ((if_neg (by omega)).trans (if_pos h))
theorem read_nan (b:Nat) (h:9218868437227405312<(b%9223372036854775808)):∃ s f,double.read b=.nan s f:=by
 unfold Format.read
 simp only [sw,bn,ir,lp]
 exact ⟨_,_,(if_neg (by omega)).trans ((if_neg (by omega)).trans (if_neg (by omega)))⟩
theorem cmp_lt {a b:Int} (h:a<b):compare a b=.lt:=by
 show compareOfLessAndEq a b=_
 unfold compareOfLessAndEq; rw [if_pos h]
theorem cmp_eq {a b:Int} (h:a=b):compare a b=.eq:=by
 show compareOfLessAndEq a b=_
 unfold compareOfLessAndEq; rw [if_neg (by omega),if_pos h]
theorem cmp_gt {a b:Int} (h:b<a):compare a b=.gt:=by
 show compareOfLessAndEq a b=_
 unfold compareOfLessAndEq; rw [if_neg (by omega),if_neg (by omega)]
theorem cmp_iff {a b c d:Int} (h1:a<b↔c<d) (h2:a=b↔c=d):compare a b=compare c d:=by
 show compareOfLessAndEq a b=compareOfLessAndEq c d
 unfold compareOfLessAndEq
 by_cases h:c<d
 ·rw [if_pos h,if_pos (h1.2 h)]
 ·rw [if_neg h,if_neg (fun k=>h (h1.1 k))]
  by_cases g:c=d
  ·rw [if_pos g,if_pos (h2.2 g)]
  ·rw [if_neg g,if_neg (fun k=>g (h2.1 k))]
def sg (s:Bool) (m:Nat):Int:=if s then -(m:Int) else m
theorem signed_eq (s:Bool) (m u:Nat):signed s m u=sg s (m*2 ^ u):=by
 unfold signed sg
 rw [Nat.shiftLeft_eq]
theorem sg_mul (s:Bool) (m c:Nat):sg s (m*c)=sg s m*(c:Int):=by
 unfold sg
 cases s <;> simp [Int.neg_mul]
theorem order_num (s t:Bool) (m n:Nat) (i j:Int) (hi:-1074≤i) (hj:-1074≤j) :
 Datum.order (.number s m i) (.number t n j)=some (compare (sg s (m*2 ^ (i+1074).toNat)) (sg t (n*2 ^ (j+1074).toNat))):=by
 show some (compare (signed s m (i-min i j).toNat) (signed t n (j-min i j).toNat))=_
 rw [signed_eq,signed_eq]
 congr 1
 have e1:m*2 ^ (i+1074).toNat=m*2 ^ (i-min i j).toNat*2 ^ (min i j+1074).toNat:=by
  rw [Nat.mul_assoc,← Nat.pow_add]; congr 2; omega
 have e2:n*2 ^ (j+1074).toNat=n*2 ^ (j-min i j).toNat*2 ^ (min i j+1074).toNat:=by
  rw [Nat.mul_assoc,← Nat.pow_add]; congr 2; omega
 rw [e1,e2,sg_mul s (m*2 ^ (i-min i j).toNat),sg_mul t (n*2 ^ (j-min i j).toNat)]
 have hp:(0:Int)<((2 ^ (min i j+1074).toNat:Nat):Int):=by
  have:=Nat.two_pow_pos (min i j+1074).toNat
  omega
 generalize ((2 ^ (min i j+1074).toNat:Nat):Int)=c at *
 generalize sg s _=x
 generalize sg t _=y
 refine cmp_iff ?_ ?_
 ·exact ⟨fun h=>Int.mul_lt_mul_of_pos_right h hp,fun h=>Int.lt_of_mul_lt_mul_right h (Int.le_of_lt hp)⟩
 ·exact ⟨fun h=>by rw [h],fun h=>Int.eq_of_mul_eq_mul_right (by omega) h⟩
theorem key_cmp (x y:Nat) (hx:x<18446744073709551616) (hy:y<18446744073709551616):compare (sg (sgn x) (val (x%9223372036854775808))) (sg (sgn y) (val (y%9223372036854775808)))=compare (key x) (key y):=by
 have a:=@val_lt_iff (x%9223372036854775808) (y%9223372036854775808)
 have b:=@val_lt_iff (y%9223372036854775808) (x%9223372036854775808)
 have c:=@val_lt_iff 0 (x%9223372036854775808)
 have d:=@val_lt_iff 0 (y%9223372036854775808)
 rw [val_zero] at c d
 rw [sgn_spec x hx,sgn_spec y hy]
 unfold sg
 simp only [decide_eq_true_eq]
 have kx:=key_spec x
 have ky:=key_spec y
 generalize val (x%9223372036854775808)=vx at *
 generalize val (y%9223372036854775808)=vy at *
 generalize key x=kx at *
 generalize key y=ky at *
 refine cmp_iff ?_ ?_
 ·split <;> split <;> omega
 ·split <;> split <;> omega
theorem order_key (x y:Nat) (hx:x<18446744073709551616) (hy:y<18446744073709551616) (nx:x%9223372036854775808≤9218868437227405312) (ny:y%9223372036854775808≤9218868437227405312) :
 double.order x y=some (compare (key x) (key y)):=by
 have kx:=key_spec x
 have ky:=key_spec y
 unfold Format.order
 by_cases ix:x%9223372036854775808=9218868437227405312 <;> by_cases iy:y%9223372036854775808=9218868437227405312
 ·rw [read_inf x ix,read_inf y iy,sgn_spec x hx,sgn_spec y hy]
  show some (compare _ _)=_
  congr 1
  by_cases a:9223372036854775808≤x <;> by_cases b:9223372036854775808≤y
  ·rw [decide_eq_true a,decide_eq_true b,cmp_eq (by omega)]; rfl
  ·rw [decide_eq_true a,decide_eq_false b,cmp_lt (by omega)]; rfl
  ·rw [decide_eq_false a,decide_eq_true b,cmp_gt (by omega)]; rfl
  ·rw [decide_eq_false a,decide_eq_false b,cmp_eq (by omega)]; rfl
 ·obtain ⟨m,i,h,_,_⟩:=read_num y (by omega)
  rw [read_inf x ix,h,sgn_spec x hx]
  show some (if decide (9223372036854775808≤x)=true then Ordering.lt else Ordering.gt)=_
  congr 1
  by_cases a:9223372036854775808≤x
  ·rw [cmp_lt (by omega),if_pos (decide_eq_true a)]
  ·rw [cmp_gt (by omega),decide_eq_false a]; rfl
 ·obtain ⟨m,i,h,_,_⟩:=read_num x (by omega)
  rw [read_inf y iy,h,sgn_spec y hy]
  show some (if decide (9223372036854775808≤y)=true then Ordering.gt else Ordering.lt)=_
  congr 1
  by_cases a:9223372036854775808≤y
  ·rw [cmp_gt (by omega),if_pos (decide_eq_true a)]
  ·rw [cmp_lt (by omega),decide_eq_false a]; rfl
 ·obtain ⟨m,i,h,hi,hm⟩:=read_num x (by omega)
  obtain ⟨n,j,g,hj,hn⟩:=read_num y (by omega)
  rw [h,g,order_num _ _ _ _ _ _ hi hj,hm,hn,key_cmp x y hx hy]
theorem order_nan_left (x y:Nat) (h:9218868437227405312<(x%9223372036854775808)):double.order x y=none:=by
 obtain ⟨s,f,e⟩:=read_nan x h
 unfold Format.order
 rw [e]
 rfl
def two (k:Nat):Nat:=2 ^ k
def U:Nat:=two 1074
def W:Nat:=two 1066
end Flt
open Go.RowKit Go.Lib
set_option linter.unusedVariables false
namespace Flt
theorem olt (x y:Nat) (hx:x<18446744073709551616) (hy:y<18446744073709551616) (nx:x%9223372036854775808≤9218868437227405312) (ny:y%9223372036854775808≤9218868437227405312) (h:key x<key y):FloatKind.f64.format.order x y=some .lt:=by
 have:=order_key x y hx hy nx ny
 rw [cmp_lt h] at this; exact this
theorem oeq (x y:Nat) (hx:x<18446744073709551616) (hy:y<18446744073709551616) (nx:x%9223372036854775808≤9218868437227405312) (ny:y%9223372036854775808≤9218868437227405312) (h:key x=key y):FloatKind.f64.format.order x y=some .eq:=by
 have:=order_key x y hx hy nx ny
 rw [cmp_eq h] at this; exact this
theorem ogt (x y:Nat) (hx:x<18446744073709551616) (hy:y<18446744073709551616) (nx:x%9223372036854775808≤9218868437227405312) (ny:y%9223372036854775808≤9218868437227405312) (h:key y<key x):FloatKind.f64.format.order x y=some .gt:=by
 have:=order_key x y hx hy nx ny
 rw [cmp_gt h] at this; exact this
theorem onl (x y:Nat) (h:9218868437227405312<x%9223372036854775808):FloatKind.f64.format.order x y=none:=order_nan_left x y h
end Flt
open Flt
def fbitsE:Array Value→Sem Value:=Extern.MathFloatBits.float64bits
theorem fbits (b:Nat) (w:World):(callFunc 93 #[.float .f64 b]).run Tryz.prog w=.ok (.value (.int .u64 (b:Int))) w:=by
 rw [run_callFunc_extern Tryz.func93 (by kernel_rfl) (by kernel_rfl) (by kernel_rfl) (e:=fbitsE) (by kernel_rfl)]
 rfl
theorem key_0:key 0=0:=rfl
theorem key_1:key 4607182418800017408=4607182418800017408:=rfl
def kd (b:Nat):Int :=
 if 9218868437227405312<b%9223372036854775808 then 0
 else if b=18442240474082181120 then 1
 else if b=9218868437227405312 then 6
 else if b=9223372036854775808 then 3
 else if b=0 then 4
 else if 9223372036854775808<b then 2
 else 5
theorem kd_cases (b:Nat) (hb:b<18446744073709551616) :
 (9218868437227405312<b%9223372036854775808∧kd b=0)∨(b%9223372036854775808≤9218868437227405312 ∧
  ((b=18442240474082181120∧kd b=1)∨(b=9218868437227405312∧kd b=6)∨(b=9223372036854775808∧kd b=3)∨(b=0∧kd b=4) ∨
   (9223372036854775808<b∧b<18442240474082181120∧kd b=2)∨(0<b∧b<9218868437227405312∧kd b=5))):=by
 unfold kd
 split
 ·exact .inl ⟨by omega,rfl⟩
 ·refine .inr ⟨by omega,?_⟩
  split
  ·simp_all
  split
  ·simp_all
  split
  ·simp_all
  split
  ·simp_all
  split <;> omega
def inS (x:Nat):Prop:=x≤4607182418800017408∨x=9223372036854775808
namespace R3
theorem kind_at (b:Nat) (B lo hi k:Int) (w:World) (eb:∀ w,(callFunc 93 #[.float .f64 b]).run Tryz.prog w=.ok (.value (.int .u64 B)) w) (hB:0≤B) (hb:B<18446744073709551616) (e1:B%4503599627370496=lo) (e2:B / 4503599627370496%2048=hi) (h0:0≤lo) (h1:0≤hi)
 (h:(hi=2047∧0<lo∧k=0)∨(hi=2047∧lo=0∧9223372036854775808≤B∧k=1)∨(hi=2047∧lo=0∧B<9223372036854775808∧k=6) ∨
  (hi=0∧lo=0∧9223372036854775808≤B∧k=3)∨(hi=0∧lo=0∧B<9223372036854775808∧k=4) ∨
  (hi=0∧0<lo∧9223372036854775808≤B∧k=2)∨(hi=0∧0<lo∧B<9223372036854775808∧k=5) ∨
  (0<hi∧hi<2047∧9223372036854775808≤B∧k=2)∨(0<hi∧hi<2047∧B<9223372036854775808∧k=5)) :
 Calls Tryz.prog 49 #[.float .f64 b] w fun e w'=>e=.returned (.int .i64 k)∧w=w':=by
 rcases h with ⟨rfl,h2,rfl⟩ | ⟨rfl,rfl,h2,rfl⟩ | ⟨rfl,rfl,h2,rfl⟩ | ⟨rfl,rfl,h2,rfl⟩ | ⟨rfl,rfl,h2,rfl⟩ | ⟨rfl,h3,h2,rfl⟩ | ⟨rfl,h3,h2,rfl⟩ | ⟨h3,h4,h2,rfl⟩ | ⟨h3,h4,h2,rfl⟩
 ·go_enter Tryz.func49,Tryz.ntmps49
  go_wp2_with fail
  go_ret
  exact ⟨rfl,rfl⟩
 ·go_enter Tryz.func49,Tryz.ntmps49
  go_wp2_with fail
  go_ret
  exact ⟨rfl,rfl⟩
 ·go_enter Tryz.func49,Tryz.ntmps49
  go_wp2_with fail
  go_ret
  exact ⟨rfl,rfl⟩
 ·go_enter Tryz.func49,Tryz.ntmps49
  go_wp2_with fail
  go_ret
  exact ⟨rfl,rfl⟩
 ·go_enter Tryz.func49,Tryz.ntmps49
  go_wp2_with fail
  go_ret
  exact ⟨rfl,rfl⟩
 ·go_enter Tryz.func49,Tryz.ntmps49
  go_wp2_with fail
  go_ret
  exact ⟨rfl,rfl⟩
 ·go_enter Tryz.func49,Tryz.ntmps49
  go_wp2_with fail
  go_ret
  exact ⟨rfl,rfl⟩
 ·go_enter Tryz.func49,Tryz.ntmps49
  go_wp2_with fail
  go_ret
  exact ⟨rfl,rfl⟩
 ·go_enter Tryz.func49,Tryz.ntmps49
  go_wp2_with fail
  go_ret
  exact ⟨rfl,rfl⟩
theorem kind_any (b:Nat) (w:World) (hb:b<18446744073709551616) :
 Calls Tryz.prog 49 #[.float .f64 b] w fun e w'=>e=.returned (.int .i64 (kd b))∧w=w':=by
 have h:=kd_cases b hb
 generalize kd b=k at *
 refine kind_at b b _ _ _ w (fbits b) (by omega) (by omega) rfl rfl (by omega) (by omega) ?_
 rcases h with ⟨h,e⟩ | ⟨hn,⟨h,e⟩ | ⟨h,e⟩ | ⟨h,e⟩ | ⟨h,e⟩ | ⟨h,h',e⟩ | ⟨h,h',e⟩⟩
 ·exact .inl (by omega)
 ·exact .inr (.inl (by omega))
 ·exact .inr (.inr (.inl (by omega)))
 ·exact .inr (.inr (.inr (.inl (by omega))))
 ·exact .inr (.inr (.inr (.inr (.inl (by omega)))))
 ·by_cases g:(b:Int) / 4503599627370496%2048=0
  ·exact .inr (.inr (.inr (.inr (.inr (.inl (by omega))))))
  ·exact .inr (.inr (.inr (.inr (.inr (.inr (.inr (.inl (by omega))))))))
 ·by_cases g:(b:Int) / 4503599627370496%2048=0
  ·exact .inr (.inr (.inr (.inr (.inr (.inr (.inl (by omega)))))))
  ·exact .inr (.inr (.inr (.inr (.inr (.inr (.inr (.inr (by omega))))))))
end R3
open Go.RowKit Go.Lib
set_option linter.unusedVariables false
def okc (n:Nat):Bool:=decide ((97≤n∧n≤122)∨(48≤n∧n≤57)∨n=45)
def oks (l:List UInt8):Bool:=l.all fun c=>okc c.toNat
def idB (l:List UInt8):Bool:=decide (1≤l.length∧l.length≤16) && oks l
def vaB (n:Nat):Bool:=decide (n≤64)
theorem oks_nil:oks []=true:=rfl
theorem oks_cons (c:UInt8) (l:List UInt8):oks (c :: l)=(okc c.toNat && oks l):=rfl
theorem oks_append (l m:List UInt8):oks (l++m)=(oks l && oks m):=by unfold oks; rw [List.all_append]
theorem oks_snoc (l:List UInt8) (c:UInt8):oks (l++[c])=(oks l && okc c.toNat):=by
 rw [oks_append,oks_cons,oks_nil,Bool.and_true]
theorem oks_take (l:List UInt8) (k:Nat) (h:oks l=true):oks (l.take k)=true:=by
 rw [← List.take_append_drop k l,oks_append,Bool.and_eq_true] at h; exact h.1
theorem take_snoc (s:ByteArray) (k:Nat) (h:k<s.size):s.data.toList.take (k+1)=s.data.toList.take k++[s[k]]:=by
 rw [List.take_succ_eq_append_getElem (by simpa using h)]; rfl
theorem oks_at (s:ByteArray) (k:Nat) (h:k<s.size) (b:okc s[k].toNat=false):oks s.data.toList=false:=by
 cases e:oks s.data.toList
 ·rfl
 ·have:=oks_take _ (k+1) e
  rw [take_snoc s k h,oks_snoc,b,Bool.and_false] at this
  exact absurd this (by decide)
theorem idB_len (s:ByteArray) (h:s.size<1∨16<s.size):idB s.data.toList=false:=by
 have e:=Go.Lib.size_eq s
 unfold idB
 rw [decide_eq_false (by omega),Bool.false_and]
theorem idB_oks (s:ByteArray) (h:1≤s.size) (h' : s.size≤16):idB s.data.toList=oks s.data.toList:=by
 have e:=Go.Lib.size_eq s
 unfold idB
 rw [decide_eq_true (by omega),Bool.true_and]
theorem within_yes (x lo hi:Int) (w:World) (h1:lo≤x) (h2:x≤hi) :
 Calls Tryz.prog 149 #[.int .i64 x,.int .i64 lo,.int .i64 hi] w fun e w'=>e=.returned (.bool true)∧w=w':=by
 go_enter Tryz.func149,Tryz.ntmps149
 go_wp2_with fail
 go_ret
 exact ⟨rfl,rfl⟩
theorem within_no (x lo hi:Int) (w:World) (h:x<lo∨hi<x) :
 Calls Tryz.prog 149 #[.int .i64 x,.int .i64 lo,.int .i64 hi] w fun e w'=>e=.returned (.bool false)∧w=w':=by
 by_cases h1:x<lo
 ·clear h
  go_enter Tryz.func149,Tryz.ntmps149
  go_wp2_with fail
  go_ret
  exact ⟨rfl,rfl⟩
 ·have h2:lo≤x:=by omega
  have h3:decide (x≤hi)=false:=decide_eq_false (by omega)
  clear h h1
  go_enter Tryz.func149,Tryz.ntmps149
  go_wp2_with fail
  go_ret
  exact ⟨rfl,rfl⟩
theorem within8_yes (x lo hi:Int) (w:World) (h1:lo≤x) (h2:x≤hi) :
 Calls Tryz.prog 212 #[.int .u8 x,.int .u8 lo,.int .u8 hi] w fun e w'=>e=.returned (.bool true)∧w=w':=by
 go_enter Tryz.func212,Tryz.ntmps212
 go_wp2_with fail
 go_ret
 exact ⟨rfl,rfl⟩
theorem within8_no (x lo hi:Int) (w:World) (h:x<lo∨hi<x) :
 Calls Tryz.prog 212 #[.int .u8 x,.int .u8 lo,.int .u8 hi] w fun e w'=>e=.returned (.bool false)∧w=w':=by
 by_cases h1:x<lo
 ·clear h
  go_enter Tryz.func212,Tryz.ntmps212
  go_wp2_with fail
  go_ret
  exact ⟨rfl,rfl⟩
 ·have h2:lo≤x:=by omega
  have h3:decide (x≤hi)=false:=decide_eq_false (by omega)
  clear h h1
  go_enter Tryz.func212,Tryz.ntmps212
  go_wp2_with fail
  go_ret
  exact ⟨rfl,rfl⟩
theorem isid_any (n:Nat) (w:World) :
 Calls Tryz.prog 200 #[.int .u8 (n:Int)] w fun e w'=>e=.returned (.bool (okc n))∧w=w':=by
 by_cases h1:(97:Int)≤n∧(n:Int)≤122
 ·have e:okc n=true:=by unfold okc; rw [decide_eq_true (by omega)]
  rw [e]
  clear e
  go_enter Tryz.func200,Tryz.ntmps200
  go_wp2_with fail
  refine (within8_yes n 97 122 _ h1.1 h1.2).mono ?_
  rintro e w' ⟨rfl,rfl⟩
  go_wp2_with fail
  go_ret
  exact ⟨rfl,rfl⟩
 ·have h1' : (n:Int)<97∨(122:Int)<n:=by omega
  by_cases h2:(48:Int)≤n∧(n:Int)≤57
  ·have e:okc n=true:=by unfold okc; rw [decide_eq_true (by omega)]
   rw [e]
   clear e h1
   go_enter Tryz.func200,Tryz.ntmps200
   go_wp2_with fail
   refine (within8_no n 97 122 _ h1').mono ?_
   rintro e w' ⟨rfl,rfl⟩
   go_wp2_with fail
   refine (within8_yes n 48 57 _ h2.1 h2.2).mono ?_
   rintro e w' ⟨rfl,rfl⟩
   go_wp2_with fail
   go_ret
   exact ⟨rfl,rfl⟩
  ·have h2' : (n:Int)<48∨(57:Int)<n:=by omega
   obtain ⟨b,hb⟩:∃ b,((n:Int) == 45)=b:=⟨_,rfl⟩
   have e:okc n=b:=by
    rw [← hb]; unfold okc
    rw [Bool.eq_iff_iff,decide_eq_true_iff,beq_iff_eq]; omega
   rw [e]
   clear e h1 h2
   go_enter Tryz.func200,Tryz.ntmps200
   go_wp2_with fail
   refine (within8_no n 97 122 _ h1').mono ?_
   rintro e w' ⟨rfl,rfl⟩
   go_wp2_with fail
   refine (within8_no n 48 57 _ h2').mono ?_
   rintro e w' ⟨rfl,rfl⟩
   go_wp2_with fail
   go_ret
   exact ⟨rfl,rfl⟩
theorem ret_bool {a b:Bool} (h:a=b):Ending.returned (.bool a)=.returned (.bool b):=by rw [h]
set_option maxHeartbeats 400000 in
theorem id_any (s:ByteArray) (w:World) (hs:s.size≤maxLen) :
 Calls Tryz.prog 174 #[.string s] w fun e w'=>e=.returned (.bool (idB s.data.toList))∧w=w':=by
 unfold maxLen at hs
 by_cases h:(s.size:Int)<1∨(16:Int)<s.size
 ·rw [idB_len s (by omega)]
  go_enter Tryz.func174,Tryz.ntmps174
  go_wp2_with fail
  refine (within_no s.size 1 16 _ h).mono ?_
  rintro e w' ⟨rfl,rfl⟩
  go_wp2_with fail
  go_ret
  exact ⟨rfl,rfl⟩
 ·rw [idB_oks s (by omega) (by omega)]
  have h1:(1:Int)≤s.size:=by omega
  have h2:(s.size:Int)≤16:=by omega
  clear h
  go_enter Tryz.func174,Tryz.ntmps174
  go_wp2_with fail
  refine (within_yes s.size 1 16 _ h1 h2).mono ?_
  rintro e w' ⟨rfl,rfl⟩
  go_wp2_with fail
  go_loop [10] (fun i=>∃ k:Nat,k≤s.size∧i=.int .i64 k∧Hid (oks (s.data.toList.take k)=true)) (fun i=>s.size-(intOf i).toNat)
  case atStart=>exact ⟨0,Nat.zero_le _,rfl,Lib.hid rfl⟩
  case round =>
   obtain ⟨k,hk,rfl,ho⟩:=hrel
   by_cases hlt:k<s.size
   ·by_cases hc:okc s[k].toNat=true
    ·have C:=Lib.hid (fun w=>isid_any s[k].toNat w)
     rw [hc] at C
     have Q:Hid (oks (s.data.toList.take (k+1))=true):=by
      refine Lib.hid ?_
      rw [take_snoc s k hlt,oks_snoc,ho.out,hc]; rfl
     clear hc
     go_wp2_with fail
     refine (C.out _).mono ?_
     rintro e w' ⟨rfl,rfl⟩
     go_wp2_with fail
     go_round
     case rel=>exact ⟨k+1,by omega,by go_num,Q⟩
     case measure=>simp [intOf]; omega
    ·have hc' : okc s[k].toNat=false:=by simpa using hc
     have C:=Lib.hid (fun w=>isid_any s[k].toNat w)
     rw [hc'] at C
     have Q:=Lib.hid (oks_at s k hlt hc')
     clear hc hc'
     go_wp2_with fail
     refine (C.out _).mono ?_
     rintro e w' ⟨rfl,rfl⟩
     go_wp2_with fail
     go_ret
     exact ⟨ret_bool Q.out.symm,rfl⟩
   ·go_wp2_with fail
    go_ret
    exact ⟨ret_bool (by rw [← ho.out,List.take_of_length_le (by rw [← Go.Lib.size_eq]; omega)]),rfl⟩
theorem value_any (s:ByteArray) (w:World) (hs:s.size≤maxLen) :
 Calls Tryz.prog 175 #[.string s] w fun e w'=>e=.returned (.bool (vaB s.size))∧w=w':=by
 unfold maxLen at hs
 unfold vaB
 go_enter Tryz.func175,Tryz.ntmps175
 go_wp2_with fail
 go_ret
 exact ⟨ret_bool (by rw [Bool.eq_iff_iff,decide_eq_true_iff,decide_eq_true_iff]; omega),rfl⟩
namespace R4
theorem value_any (s:ByteArray) (w:World) (hs:s.size≤maxLen) :
 Calls Tryz.prog 182 #[.string s] w fun e w'=>e=.returned (.bool (vaB s.size))∧w=w':=by
 unfold maxLen at hs
 unfold vaB
 go_enter Tryz.func182,Tryz.ntmps182
 go_wp2_with fail
 go_ret
 exact ⟨ret_bool (by rw [Bool.eq_iff_iff,decide_eq_true_iff,decide_eq_true_iff]; omega),rfl⟩
theorem idB_end (s:ByteArray) (h:oks s.data.toList=true):idB s.data.toList=decide (1≤s.size∧s.size≤16):=by
 have e:=Go.Lib.size_eq s
 unfold idB
 rw [h,Bool.and_true,← e]
theorem idB_at (s:ByteArray) (k:Nat) (h:k<s.size) (b:okc s[k].toNat=false):idB s.data.toList=false:=by
 unfold idB
 rw [oks_at s k h b,Bool.and_false]
set_option maxHeartbeats 1000000 in
theorem id_any (s:ByteArray) (w:World) (hs:s.size≤maxLen) :
 Calls Tryz.prog 181 #[.string s] w fun e w'=>e=.returned (.bool (idB s.data.toList))∧w=w':=by
 unfold maxLen at hs
 go_enter Tryz.func181,Tryz.ntmps181
 go_wp2_with fail
 go_loop [3] (fun i=>∃ k:Nat,k≤s.size∧i=.int .i64 k∧Hid (oks (s.data.toList.take k)=true)) (fun i=>s.size-(intOf i).toNat)
 case atStart=>exact ⟨0,Nat.zero_le _,rfl,Lib.hid rfl⟩
 case round =>
  obtain ⟨k,hk,rfl,ho⟩:=hrel
  by_cases hlt:k<s.size
  ·have Qs:okc s[k].toNat=true→Hid (oks (s.data.toList.take (k+1))=true):=by
    intro hc
    refine Lib.hid ?_
    rw [take_snoc s k hlt,oks_snoc,ho.out,hc]; rfl
   have Qn:okc s[k].toNat=false→Hid (idB s.data.toList=false):=fun hc=>Lib.hid (idB_at s k hlt hc)
   have q1:((97:Int)≤s[k].toNat∧(s[k].toNat:Int)≤122)∨((48:Int)≤s[k].toNat∧(s[k].toNat:Int)≤57)∨(s[k].toNat:Int)=45→okc s[k].toNat=true:=by
    intro h; unfold okc; rw [decide_eq_true_iff]; omega
   have q2:¬ (((97:Int)≤s[k].toNat∧(s[k].toNat:Int)≤122)∨((48:Int)≤s[k].toNat∧(s[k].toNat:Int)≤57)∨(s[k].toNat:Int)=45)→okc s[k].toNat=false:=by
    intro h; unfold okc; rw [decide_eq_false_iff_not]; omega
   by_cases h1:(97:Int)≤s[k].toNat
   ·by_cases h2:(s[k].toNat:Int)≤122
    ·have Q:=Qs (q1 (by omega))
     clear Qs Qn q1 q2
     go_wp2_with fail
     go_round
     case rel=>exact ⟨k+1,by omega,by go_num,Q⟩
     case measure=>simp [intOf]; omega
    ·have Q:=Qn (q2 (by omega))
     have h3:(48:Int)≤s[k].toNat:=by omega
     have h4:¬ (s[k].toNat:Int)≤57:=by omega
     have h5:((s[k].toNat:Int) == 45)=false:=by rw [beq_eq_false_iff_ne]; omega
     clear Qs Qn q1 q2
     go_wp2_with fail
     go_ret
     exact ⟨ret_bool Q.out.symm,rfl⟩
   ·by_cases h3:(48:Int)≤s[k].toNat
    ·by_cases h4:(s[k].toNat:Int)≤57
     ·have Q:=Qs (q1 (by omega))
      clear Qs Qn q1 q2
      go_wp2_with fail
      go_round
      case rel=>exact ⟨k+1,by omega,by go_num,Q⟩
      case measure=>simp [intOf]; omega
     ·have Q:=Qn (q2 (by omega))
      have h5:((s[k].toNat:Int) == 45)=false:=by rw [beq_eq_false_iff_ne]; omega
      clear Qs Qn q1 q2
      go_wp2_with fail
      go_ret
      exact ⟨ret_bool Q.out.symm,rfl⟩
    ·by_cases h5:((s[k].toNat:Int) == 45)=true
     ·have Q:=Qs (q1 (by have:=eq_of_beq h5; omega))
      clear Qs Qn q1 q2
      go_wp2_with fail
      go_round
      case rel=>exact ⟨k+1,by omega,by go_num,Q⟩
      case measure=>simp [intOf]; omega
     ·have h5' : ((s[k].toNat:Int) == 45)=false:=by simpa using h5
      have Q:=Qn (q2 (by rw [beq_eq_false_iff_ne] at h5'; omega))
      clear Qs Qn q1 q2 h5
      go_wp2_with fail
      go_ret
      exact ⟨ret_bool Q.out.symm,rfl⟩
  ·have Q:Hid (idB s.data.toList=decide (1≤s.size∧s.size≤16)):=by
    refine Lib.hid (idB_end s ?_)
    rw [← ho.out,List.take_of_length_le (by rw [← Go.Lib.size_eq]; omega)]
   clear ho
   by_cases h1:(1:Int)≤s.size
   ·by_cases h2:(s.size:Int)≤16
    ·go_wp2_with fail
     go_ret
     exact ⟨ret_bool (by rw [Q.out,decide_eq_true (by omega)]),rfl⟩
    ·go_wp2_with fail
     go_ret
     exact ⟨ret_bool (by rw [Q.out,decide_eq_false (by omega)]),rfl⟩
   ·go_wp2_with fail
    go_ret
    exact ⟨ret_bool (by rw [Q.out,decide_eq_false (by omega)]),rfl⟩
end R4
open Go.RowKit Go.Lib Flt
set_option linter.unusedVariables false
theorem bcell {W w1:World} (hb:Below W.heap.size W w1):(∀ b o,b<W.heap.size→w1.cell? ⟨b,o,none⟩=W.cell? ⟨b,o,none⟩)∧(∀ b o,b<W.heap.size→w1.frozen? ⟨b,o,none⟩=W.frozen? ⟨b,o,none⟩) :=
 ⟨fun b o h=>hb.cell (p:=⟨b,o,none⟩) h,fun b o h=>hb.frozen (p:=⟨b,o,none⟩) h⟩
theorem winf_yes (x:Nat) (w:World) (h:inS x) :
 Calls Tryz.prog 153 #[.float .f64 x,.float .f64 0,.float .f64 4607182418800017408] w fun e w'=>e=.returned (.bool true)∧w=w':=by
 unfold inS at h
 have k:=key_spec x
 have hb:x<18446744073709551616:=by omega
 have hn:x%9223372036854775808≤9218868437227405312:=by omega
 have o1:(FloatKind.f64.format.order x 0 == some .gt || FloatKind.f64.format.order x 0 == some .eq)=true:=by
  by_cases g:key x=0
  ·rw [oeq x 0 hb (by omega) hn (by omega) g]; rfl
  ·rw [ogt x 0 hb (by omega) hn (by omega) (by rw [key_0]; omega)]; rfl
 have o2:(FloatKind.f64.format.order x 4607182418800017408 == some .lt || FloatKind.f64.format.order x 4607182418800017408 == some .eq)=true:=by
  by_cases g:x=4607182418800017408
  ·rw [oeq x _ hb (by omega) hn (by omega) (by rw [g])]; rfl
  ·rw [olt x _ hb (by omega) hn (by omega) (by rw [key_1]; omega)]; rfl
 clear k hb hn h
 go_enter Tryz.func153,Tryz.ntmps153
 go_wp2
 go_ret
 exact ⟨rfl,rfl⟩
theorem winf_no (x:Nat) (w:World) (hb:x<18446744073709551616) (h:¬ inS x) :
 Calls Tryz.prog 153 #[.float .f64 x,.float .f64 0,.float .f64 4607182418800017408] w fun e w'=>e=.returned (.bool false)∧w=w':=by
 unfold inS at h
 have k:=key_spec x
 by_cases hn:x%9223372036854775808≤9218868437227405312
 ·by_cases g:key x<0
  ·have o:=olt x 0 hb (by omega) hn (by omega) (by rw [key_0]; omega)
   clear k hb hn h g
   go_enter Tryz.func153,Tryz.ntmps153
   go_wp2
   go_ret
   exact ⟨rfl,rfl⟩
  ·have o1:=ogt x 0 hb (by omega) hn (by omega) (by rw [key_0]; omega)
   have o2:=ogt x 4607182418800017408 hb (by omega) hn (by omega) (by rw [key_1]; omega)
   clear k hb hn h g
   go_enter Tryz.func153,Tryz.ntmps153
   go_wp2
   go_ret
   exact ⟨rfl,rfl⟩
 ·have o:=onl x 0 (by omega)
  clear k hb hn h
  go_enter Tryz.func153,Tryz.ntmps153
  go_wp2
  go_ret
  exact ⟨rfl,rfl⟩
theorem q1_yes (sg sl rt:Int) (x:Nat) (w:World) (h:4≤sg∧sg≤16) :
 Calls Tryz.prog 148 #[.agg #[.int .i64 sg,.int .i64 sl,.float .f64 x,.int .i64 rt]] w fun e w'=>e=.returned (.bool true)∧Below w.heap.size w w':=by
 go_enter Tryz.func148,Tryz.ntmps148
 go_wp2_with fail
 refine (within_yes sg 4 16 _ h.1 h.2).mono ?_
 rintro e w' ⟨rfl,rfl⟩
 go_wp2_with fail
 go_ret
 exact ⟨rfl,(Below.refl _ _).alloc (Nat.le_refl _) _⟩
theorem q1_no (sg sl rt:Int) (x:Nat) (w:World) (h:¬ (4≤sg∧sg≤16)) :
 Calls Tryz.prog 148 #[.agg #[.int .i64 sg,.int .i64 sl,.float .f64 x,.int .i64 rt]] w fun e w'=>e=.returned (.bool false)∧Below w.heap.size w w':=by
 go_enter Tryz.func148,Tryz.ntmps148
 go_wp2_with fail
 refine (within_no sg 4 16 _ (by omega)).mono ?_
 rintro e w' ⟨rfl,rfl⟩
 go_wp2_with fail
 go_ret
 exact ⟨rfl,(Below.refl _ _).alloc (Nat.le_refl _) _⟩
theorem q2_yes (sg sl rt:Int) (x:Nat) (w:World) (h:1≤sl∧sl≤30) :
 Calls Tryz.prog 150 #[.agg #[.int .i64 sg,.int .i64 sl,.float .f64 x,.int .i64 rt]] w fun e w'=>e=.returned (.bool true)∧Below w.heap.size w w':=by
 go_enter Tryz.func150,Tryz.ntmps150
 go_wp2_with fail
 refine (within_yes sl 1 30 _ h.1 h.2).mono ?_
 rintro e w' ⟨rfl,rfl⟩
 go_wp2_with fail
 go_ret
 exact ⟨rfl,(Below.refl _ _).alloc (Nat.le_refl _) _⟩
theorem q2_no (sg sl rt:Int) (x:Nat) (w:World) (h:¬ (1≤sl∧sl≤30)) :
 Calls Tryz.prog 150 #[.agg #[.int .i64 sg,.int .i64 sl,.float .f64 x,.int .i64 rt]] w fun e w'=>e=.returned (.bool false)∧Below w.heap.size w w':=by
 go_enter Tryz.func150,Tryz.ntmps150
 go_wp2_with fail
 refine (within_no sl 1 30 _ (by omega)).mono ?_
 rintro e w' ⟨rfl,rfl⟩
 go_wp2_with fail
 go_ret
 exact ⟨rfl,(Below.refl _ _).alloc (Nat.le_refl _) _⟩
theorem q3_yes (sg sl rt:Int) (x:Nat) (w:World) (h:0≤rt∧rt≤8) :
 Calls Tryz.prog 151 #[.agg #[.int .i64 sg,.int .i64 sl,.float .f64 x,.int .i64 rt]] w fun e w'=>e=.returned (.bool true)∧Below w.heap.size w w':=by
 go_enter Tryz.func151,Tryz.ntmps151
 go_wp2_with fail
 refine (within_yes rt 0 8 _ h.1 h.2).mono ?_
 rintro e w' ⟨rfl,rfl⟩
 go_wp2_with fail
 go_ret
 exact ⟨rfl,(Below.refl _ _).alloc (Nat.le_refl _) _⟩
theorem q3_no (sg sl rt:Int) (x:Nat) (w:World) (h:¬ (0≤rt∧rt≤8)) :
 Calls Tryz.prog 151 #[.agg #[.int .i64 sg,.int .i64 sl,.float .f64 x,.int .i64 rt]] w fun e w'=>e=.returned (.bool false)∧Below w.heap.size w w':=by
 go_enter Tryz.func151,Tryz.ntmps151
 go_wp2_with fail
 refine (within_no rt 0 8 _ (by omega)).mono ?_
 rintro e w' ⟨rfl,rfl⟩
 go_wp2_with fail
 go_ret
 exact ⟨rfl,(Below.refl _ _).alloc (Nat.le_refl _) _⟩
theorem q4_yes (sg sl rt:Int) (x:Nat) (w:World) (h:inS x) :
 Calls Tryz.prog 152 #[.agg #[.int .i64 sg,.int .i64 sl,.float .f64 x,.int .i64 rt]] w fun e w'=>e=.returned (.bool true)∧Below w.heap.size w w':=by
 go_enter Tryz.func152,Tryz.ntmps152
 go_wp2_with fail
 refine (winf_yes x _ h).mono ?_
 rintro e w' ⟨rfl,rfl⟩
 go_wp2_with fail
 go_ret
 exact ⟨rfl,(Below.refl _ _).alloc (Nat.le_refl _) _⟩
theorem q4_no (sg sl rt:Int) (x:Nat) (w:World) (hx:x<18446744073709551616) (h:¬ (inS x)) :
 Calls Tryz.prog 152 #[.agg #[.int .i64 sg,.int .i64 sl,.float .f64 x,.int .i64 rt]] w fun e w'=>e=.returned (.bool false)∧Below w.heap.size w w':=by
 go_enter Tryz.func152,Tryz.ntmps152
 go_wp2_with fail
 refine (winf_no x _ hx h).mono ?_
 rintro e w' ⟨rfl,rfl⟩
 go_wp2_with fail
 go_ret
 exact ⟨rfl,(Below.refl _ _).alloc (Nat.le_refl _) _⟩
structure LiesC (W:World) (B:Nat) (sg sl:Int) (x:Nat) (rt:Int):Prop where
 lt:B<W.heap.size
 c0:W.cell? ⟨B,0,none⟩=some (.int .i64 sg)
 c1:W.cell? ⟨B,1,none⟩=some (.int .i64 sl)
 c2:W.cell? ⟨B,2,none⟩=some (.float .f64 x)
 c3:W.cell? ⟨B,3,none⟩=some (.int .i64 rt)
theorem LiesC.later {W w:World} {B:Nat} {sg sl rt:Int} {x:Nat} (h:LiesC W B sg sl x rt) (hb:Below W.heap.size W w):LiesC w B sg sl x rt :=
 have e:=(bcell hb).1
 ⟨Nat.lt_of_lt_of_le h.lt hb.size,(e _ _ h.lt).trans h.c0,(e _ _ h.lt).trans h.c1,(e _ _ h.lt).trans h.c2,(e _ _ h.lt).trans h.c3⟩
structure LiesQ (W:World) (S:Nat):Prop where
 lt:S<W.heap.size
 s0:W.cell? ⟨S,0,none⟩=some (.func (.func 148) #[] #[])
 s1:W.cell? ⟨S,1,none⟩=some (.func (.func 150) #[] #[])
 s2:W.cell? ⟨S,2,none⟩=some (.func (.func 151) #[] #[])
 s3:W.cell? ⟨S,3,none⟩=some (.func (.func 152) #[] #[])
theorem LiesQ.later {W w:World} {S:Nat} (h:LiesQ W S) (hb:Below W.heap.size W w):LiesQ w S :=
 have e:=(bcell hb).1
 ⟨Nat.lt_of_lt_of_le h.lt hb.size,(e _ _ h.lt).trans h.s0,(e _ _ h.lt).trans h.s1,(e _ _ h.lt).trans h.s2,(e _ _ h.lt).trans h.s3⟩
theorem clo1 (b:Bool) (sg sl rt:Int) (x B:Nat) (W w:World) (hW:Below W.heap.size W w) (L:LiesC W B sg sl x rt)
 (C:∀ w,Calls Tryz.prog 148 #[.agg #[.int .i64 sg,.int .i64 sl,.float .f64 x,.int .i64 rt]] w fun e w'=>e=.returned (.bool b)∧Below w.heap.size w w') :
 Calls Tryz.prog 105 #[.agg #[.func (.func 148) #[] #[]],.pointer (some ⟨B,0,none⟩)] w fun e w'=>e=.returned (.bool (!b))∧Below W.heap.size W w':=by
 obtain ⟨hB,c0,c1,c2,c3⟩:=L.later hW
 have hz:=hW.size
 have CC:=Lib.hid C
 clear C
 go_enter Tryz.func105,Tryz.ntmps105
 go_wp2_with fail
 refine (CC.out _).mono ?_
 rintro e w1 ⟨rfl,hb⟩
 go_wp2_with fail
 go_ret
 exact ⟨rfl,hW.trans ((((Below.refl _ _).alloc (Nat.le_refl _) _).trans (hb.mono (by simp))).mono hz)⟩
theorem clo2 (b:Bool) (sg sl rt:Int) (x B:Nat) (W w:World) (hW:Below W.heap.size W w) (L:LiesC W B sg sl x rt)
 (C:∀ w,Calls Tryz.prog 150 #[.agg #[.int .i64 sg,.int .i64 sl,.float .f64 x,.int .i64 rt]] w fun e w'=>e=.returned (.bool b)∧Below w.heap.size w w') :
 Calls Tryz.prog 105 #[.agg #[.func (.func 150) #[] #[]],.pointer (some ⟨B,0,none⟩)] w fun e w'=>e=.returned (.bool (!b))∧Below W.heap.size W w':=by
 obtain ⟨hB,c0,c1,c2,c3⟩:=L.later hW
 have hz:=hW.size
 have CC:=Lib.hid C
 clear C
 go_enter Tryz.func105,Tryz.ntmps105
 go_wp2_with fail
 refine (CC.out _).mono ?_
 rintro e w1 ⟨rfl,hb⟩
 go_wp2_with fail
 go_ret
 exact ⟨rfl,hW.trans ((((Below.refl _ _).alloc (Nat.le_refl _) _).trans (hb.mono (by simp))).mono hz)⟩
theorem clo3 (b:Bool) (sg sl rt:Int) (x B:Nat) (W w:World) (hW:Below W.heap.size W w) (L:LiesC W B sg sl x rt)
 (C:∀ w,Calls Tryz.prog 151 #[.agg #[.int .i64 sg,.int .i64 sl,.float .f64 x,.int .i64 rt]] w fun e w'=>e=.returned (.bool b)∧Below w.heap.size w w') :
 Calls Tryz.prog 105 #[.agg #[.func (.func 151) #[] #[]],.pointer (some ⟨B,0,none⟩)] w fun e w'=>e=.returned (.bool (!b))∧Below W.heap.size W w':=by
 obtain ⟨hB,c0,c1,c2,c3⟩:=L.later hW
 have hz:=hW.size
 have CC:=Lib.hid C
 clear C
 go_enter Tryz.func105,Tryz.ntmps105
 go_wp2_with fail
 refine (CC.out _).mono ?_
 rintro e w1 ⟨rfl,hb⟩
 go_wp2_with fail
 go_ret
 exact ⟨rfl,hW.trans ((((Below.refl _ _).alloc (Nat.le_refl _) _).trans (hb.mono (by simp))).mono hz)⟩
theorem clo4 (b:Bool) (sg sl rt:Int) (x B:Nat) (W w:World) (hW:Below W.heap.size W w) (L:LiesC W B sg sl x rt)
 (C:∀ w,Calls Tryz.prog 152 #[.agg #[.int .i64 sg,.int .i64 sl,.float .f64 x,.int .i64 rt]] w fun e w'=>e=.returned (.bool b)∧Below w.heap.size w w') :
 Calls Tryz.prog 105 #[.agg #[.func (.func 152) #[] #[]],.pointer (some ⟨B,0,none⟩)] w fun e w'=>e=.returned (.bool (!b))∧Below W.heap.size W w':=by
 obtain ⟨hB,c0,c1,c2,c3⟩:=L.later hW
 have hz:=hW.size
 have CC:=Lib.hid C
 clear C
 go_enter Tryz.func105,Tryz.ntmps105
 go_wp2_with fail
 refine (CC.out _).mono ?_
 rintro e w1 ⟨rfl,hb⟩
 go_wp2_with fail
 go_ret
 exact ⟨rfl,hW.trans ((((Below.refl _ _).alloc (Nat.le_refl _) _).trans (hb.mono (by simp))).mono hz)⟩
theorem idx_0 (sg sl rt:Int) (x S B:Nat) (W w:World) (hW:Below W.heap.size W w) (L:LiesC W B sg sl x rt) (M:LiesQ W S) (h0:¬ (4≤sg∧sg≤16)) :
 Calls Tryz.prog 147 #[.slice (some ⟨S,0,none⟩) 4 4,.func (.func 105) #[] #[.pointer (some ⟨B,0,none⟩)]] w fun e w'=>e=.returned (.int .i64 0)∧Below W.heap.size W w':=by
 have C0:=Lib.hid (fun w hb=>clo1 false sg sl rt x B W w hb L (fun w=>q1_no sg sl rt x w h0))
 obtain ⟨hS,s0,s1,s2,s3⟩:=M.later hW
 go_enter Tryz.func147,Tryz.ntmps147
 go_wp2_with fail
 refine wp_loop_rounds 1 ?_
 rw [rounds_succ]
 go_wp2_with fail
 refine (C0.out _ hW).mono ?_
 rintro e w1 ⟨rfl,hb1⟩
 go_wp2_with fail
 go_ret
 exact ⟨rfl,hb1⟩
theorem con_0 (sg sl rt:Int) (x S B:Nat) (W w:World) (hW:Below W.heap.size W w) (L:LiesC W B sg sl x rt) (M:LiesQ W S) (h0:¬ (4≤sg∧sg≤16)) :
 Calls Tryz.prog 106 #[.slice (some ⟨S,0,none⟩) 4 4,.func (.func 105) #[] #[.pointer (some ⟨B,0,none⟩)]] w fun e w'=>e=.returned (.bool true)∧Below W.heap.size W w':=by
 have C:=Lib.hid (idx_0 sg sl rt x S B W w hW L M h0)
 go_enter Tryz.func106,Tryz.ntmps106
 go_wp2_with fail
 refine C.out.mono ?_
 rintro e w1 ⟨rfl,hb⟩
 go_wp2_with fail
 go_ret
 exact ⟨rfl,hb⟩
theorem idx_1 (sg sl rt:Int) (x S B:Nat) (W w:World) (hW:Below W.heap.size W w) (L:LiesC W B sg sl x rt) (M:LiesQ W S) (h0:4≤sg∧sg≤16) (h1:¬ (1≤sl∧sl≤30)) :
 Calls Tryz.prog 147 #[.slice (some ⟨S,0,none⟩) 4 4,.func (.func 105) #[] #[.pointer (some ⟨B,0,none⟩)]] w fun e w'=>e=.returned (.int .i64 1)∧Below W.heap.size W w':=by
 have C0:=Lib.hid (fun w hb=>clo1 true sg sl rt x B W w hb L (fun w=>q1_yes sg sl rt x w h0))
 have C1:=Lib.hid (fun w hb=>clo2 false sg sl rt x B W w hb L (fun w=>q2_no sg sl rt x w h1))
 obtain ⟨hS,s0,s1,s2,s3⟩:=M.later hW
 go_enter Tryz.func147,Tryz.ntmps147
 go_wp2_with fail
 refine wp_loop_rounds 2 ?_
 rw [rounds_succ]
 go_wp2_with fail
 refine (C0.out _ hW).mono ?_
 rintro e w1 ⟨rfl,hb1⟩
 clear s0 s1 s2 s3 hS
 obtain ⟨hS,s0,s1,s2,s3⟩:=M.later hb1
 go_wp2_with fail
 rw [rounds_succ]
 go_wp2_with fail
 refine (C1.out _ hb1).mono ?_
 rintro e w2 ⟨rfl,hb2⟩
 go_wp2_with fail
 go_ret
 exact ⟨rfl,hb2⟩
theorem con_1 (sg sl rt:Int) (x S B:Nat) (W w:World) (hW:Below W.heap.size W w) (L:LiesC W B sg sl x rt) (M:LiesQ W S) (h0:4≤sg∧sg≤16) (h1:¬ (1≤sl∧sl≤30)) :
 Calls Tryz.prog 106 #[.slice (some ⟨S,0,none⟩) 4 4,.func (.func 105) #[] #[.pointer (some ⟨B,0,none⟩)]] w fun e w'=>e=.returned (.bool true)∧Below W.heap.size W w':=by
 have C:=Lib.hid (idx_1 sg sl rt x S B W w hW L M h0 h1)
 go_enter Tryz.func106,Tryz.ntmps106
 go_wp2_with fail
 refine C.out.mono ?_
 rintro e w1 ⟨rfl,hb⟩
 go_wp2_with fail
 go_ret
 exact ⟨rfl,hb⟩
theorem idx_2 (sg sl rt:Int) (x S B:Nat) (W w:World) (hW:Below W.heap.size W w) (L:LiesC W B sg sl x rt) (M:LiesQ W S) (h0:4≤sg∧sg≤16) (h1:1≤sl∧sl≤30) (h2:¬ (0≤rt∧rt≤8)) :
 Calls Tryz.prog 147 #[.slice (some ⟨S,0,none⟩) 4 4,.func (.func 105) #[] #[.pointer (some ⟨B,0,none⟩)]] w fun e w'=>e=.returned (.int .i64 2)∧Below W.heap.size W w':=by
 have C0:=Lib.hid (fun w hb=>clo1 true sg sl rt x B W w hb L (fun w=>q1_yes sg sl rt x w h0))
 have C1:=Lib.hid (fun w hb=>clo2 true sg sl rt x B W w hb L (fun w=>q2_yes sg sl rt x w h1))
 have C2:=Lib.hid (fun w hb=>clo3 false sg sl rt x B W w hb L (fun w=>q3_no sg sl rt x w h2))
 obtain ⟨hS,s0,s1,s2,s3⟩:=M.later hW
 go_enter Tryz.func147,Tryz.ntmps147
 go_wp2_with fail
 refine wp_loop_rounds 3 ?_
 rw [rounds_succ]
 go_wp2_with fail
 refine (C0.out _ hW).mono ?_
 rintro e w1 ⟨rfl,hb1⟩
 clear s0 s1 s2 s3 hS
 obtain ⟨hS,s0,s1,s2,s3⟩:=M.later hb1
 go_wp2_with fail
 rw [rounds_succ]
 go_wp2_with fail
 refine (C1.out _ hb1).mono ?_
 rintro e w2 ⟨rfl,hb2⟩
 clear s0 s1 s2 s3 hS
 obtain ⟨hS,s0,s1,s2,s3⟩:=M.later hb2
 go_wp2_with fail
 rw [rounds_succ]
 go_wp2_with fail
 refine (C2.out _ hb2).mono ?_
 rintro e w3 ⟨rfl,hb3⟩
 go_wp2_with fail
 go_ret
 exact ⟨rfl,hb3⟩
theorem con_2 (sg sl rt:Int) (x S B:Nat) (W w:World) (hW:Below W.heap.size W w) (L:LiesC W B sg sl x rt) (M:LiesQ W S) (h0:4≤sg∧sg≤16) (h1:1≤sl∧sl≤30) (h2:¬ (0≤rt∧rt≤8)) :
 Calls Tryz.prog 106 #[.slice (some ⟨S,0,none⟩) 4 4,.func (.func 105) #[] #[.pointer (some ⟨B,0,none⟩)]] w fun e w'=>e=.returned (.bool true)∧Below W.heap.size W w':=by
 have C:=Lib.hid (idx_2 sg sl rt x S B W w hW L M h0 h1 h2)
 go_enter Tryz.func106,Tryz.ntmps106
 go_wp2_with fail
 refine C.out.mono ?_
 rintro e w1 ⟨rfl,hb⟩
 go_wp2_with fail
 go_ret
 exact ⟨rfl,hb⟩
theorem idx_3 (sg sl rt:Int) (x S B:Nat) (W w:World) (hW:Below W.heap.size W w) (L:LiesC W B sg sl x rt) (M:LiesQ W S) (hx:x<18446744073709551616) (h0:4≤sg∧sg≤16) (h1:1≤sl∧sl≤30) (h2:0≤rt∧rt≤8) (h3:¬ (inS x)) :
 Calls Tryz.prog 147 #[.slice (some ⟨S,0,none⟩) 4 4,.func (.func 105) #[] #[.pointer (some ⟨B,0,none⟩)]] w fun e w'=>e=.returned (.int .i64 3)∧Below W.heap.size W w':=by
 have C0:=Lib.hid (fun w hb=>clo1 true sg sl rt x B W w hb L (fun w=>q1_yes sg sl rt x w h0))
 have C1:=Lib.hid (fun w hb=>clo2 true sg sl rt x B W w hb L (fun w=>q2_yes sg sl rt x w h1))
 have C2:=Lib.hid (fun w hb=>clo3 true sg sl rt x B W w hb L (fun w=>q3_yes sg sl rt x w h2))
 have C3:=Lib.hid (fun w hb=>clo4 false sg sl rt x B W w hb L (fun w=>q4_no sg sl rt x w hx h3))
 obtain ⟨hS,s0,s1,s2,s3⟩:=M.later hW
 go_enter Tryz.func147,Tryz.ntmps147
 go_wp2_with fail
 refine wp_loop_rounds 4 ?_
 rw [rounds_succ]
 go_wp2_with fail
 refine (C0.out _ hW).mono ?_
 rintro e w1 ⟨rfl,hb1⟩
 clear s0 s1 s2 s3 hS
 obtain ⟨hS,s0,s1,s2,s3⟩:=M.later hb1
 go_wp2_with fail
 rw [rounds_succ]
 go_wp2_with fail
 refine (C1.out _ hb1).mono ?_
 rintro e w2 ⟨rfl,hb2⟩
 clear s0 s1 s2 s3 hS
 obtain ⟨hS,s0,s1,s2,s3⟩:=M.later hb2
 go_wp2_with fail
 rw [rounds_succ]
 go_wp2_with fail
 refine (C2.out _ hb2).mono ?_
 rintro e w3 ⟨rfl,hb3⟩
 clear s0 s1 s2 s3 hS
 obtain ⟨hS,s0,s1,s2,s3⟩:=M.later hb3
 go_wp2_with fail
 rw [rounds_succ]
 go_wp2_with fail
 refine (C3.out _ hb3).mono ?_
 rintro e w4 ⟨rfl,hb4⟩
 go_wp2_with fail
 go_ret
 exact ⟨rfl,hb4⟩
theorem con_3 (sg sl rt:Int) (x S B:Nat) (W w:World) (hW:Below W.heap.size W w) (L:LiesC W B sg sl x rt) (M:LiesQ W S) (hx:x<18446744073709551616) (h0:4≤sg∧sg≤16) (h1:1≤sl∧sl≤30) (h2:0≤rt∧rt≤8) (h3:¬ (inS x)) :
 Calls Tryz.prog 106 #[.slice (some ⟨S,0,none⟩) 4 4,.func (.func 105) #[] #[.pointer (some ⟨B,0,none⟩)]] w fun e w'=>e=.returned (.bool true)∧Below W.heap.size W w':=by
 have C:=Lib.hid (idx_3 sg sl rt x S B W w hW L M hx h0 h1 h2 h3)
 go_enter Tryz.func106,Tryz.ntmps106
 go_wp2_with fail
 refine C.out.mono ?_
 rintro e w1 ⟨rfl,hb⟩
 go_wp2_with fail
 go_ret
 exact ⟨rfl,hb⟩
theorem idx_4 (sg sl rt:Int) (x S B:Nat) (W w:World) (hW:Below W.heap.size W w) (L:LiesC W B sg sl x rt) (M:LiesQ W S) (h0:4≤sg∧sg≤16) (h1:1≤sl∧sl≤30) (h2:0≤rt∧rt≤8) (h3:inS x) :
 Calls Tryz.prog 147 #[.slice (some ⟨S,0,none⟩) 4 4,.func (.func 105) #[] #[.pointer (some ⟨B,0,none⟩)]] w fun e w'=>e=.returned (.int .i64 (-1))∧Below W.heap.size W w':=by
 have C0:=Lib.hid (fun w hb=>clo1 true sg sl rt x B W w hb L (fun w=>q1_yes sg sl rt x w h0))
 have C1:=Lib.hid (fun w hb=>clo2 true sg sl rt x B W w hb L (fun w=>q2_yes sg sl rt x w h1))
 have C2:=Lib.hid (fun w hb=>clo3 true sg sl rt x B W w hb L (fun w=>q3_yes sg sl rt x w h2))
 have C3:=Lib.hid (fun w hb=>clo4 true sg sl rt x B W w hb L (fun w=>q4_yes sg sl rt x w h3))
 obtain ⟨hS,s0,s1,s2,s3⟩:=M.later hW
 go_enter Tryz.func147,Tryz.ntmps147
 go_wp2_with fail
 refine wp_loop_rounds 5 ?_
 rw [rounds_succ]
 go_wp2_with fail
 refine (C0.out _ hW).mono ?_
 rintro e w1 ⟨rfl,hb1⟩
 clear s0 s1 s2 s3 hS
 obtain ⟨hS,s0,s1,s2,s3⟩:=M.later hb1
 go_wp2_with fail
 rw [rounds_succ]
 go_wp2_with fail
 refine (C1.out _ hb1).mono ?_
 rintro e w2 ⟨rfl,hb2⟩
 clear s0 s1 s2 s3 hS
 obtain ⟨hS,s0,s1,s2,s3⟩:=M.later hb2
 go_wp2_with fail
 rw [rounds_succ]
 go_wp2_with fail
 refine (C2.out _ hb2).mono ?_
 rintro e w3 ⟨rfl,hb3⟩
 clear s0 s1 s2 s3 hS
 obtain ⟨hS,s0,s1,s2,s3⟩:=M.later hb3
 go_wp2_with fail
 rw [rounds_succ]
 go_wp2_with fail
 refine (C3.out _ hb3).mono ?_
 rintro e w4 ⟨rfl,hb4⟩
 go_wp2_with fail
 rw [rounds_succ]
 go_wp2_with fail
 go_ret
 exact ⟨rfl,hb4⟩
theorem con_4 (sg sl rt:Int) (x S B:Nat) (W w:World) (hW:Below W.heap.size W w) (L:LiesC W B sg sl x rt) (M:LiesQ W S) (h0:4≤sg∧sg≤16) (h1:1≤sl∧sl≤30) (h2:0≤rt∧rt≤8) (h3:inS x) :
 Calls Tryz.prog 106 #[.slice (some ⟨S,0,none⟩) 4 4,.func (.func 105) #[] #[.pointer (some ⟨B,0,none⟩)]] w fun e w'=>e=.returned (.bool false)∧Below W.heap.size W w':=by
 have C:=Lib.hid (idx_4 sg sl rt x S B W w hW L M h0 h1 h2 h3)
 go_enter Tryz.func106,Tryz.ntmps106
 go_wp2_with fail
 refine C.out.mono ?_
 rintro e w1 ⟨rfl,hb⟩
 go_wp2_with fail
 go_ret
 exact ⟨rfl,hb⟩
theorem questions_any (w:World) :
 Calls Tryz.prog 107 #[] w fun e w'=>e=.returned (.slice (some ⟨w.heap.size,0,none⟩) 4 4)∧w' = w.alloc (.cells #[.func (.func 148) #[] #[],.func (.func 150) #[] #[],.func (.func 151) #[] #[],.func (.func 152) #[] #[]] 186):=by
 go_enter Tryz.func107,Tryz.ntmps107
 go_wp2_with fail
 go_ret
 exact ⟨rfl,rfl⟩
open Go.RowKit Go.Lib Flt
set_option linter.unusedVariables false
def MayC (sg sl:Int) (x:Nat) (rt:Int):Prop:=(4≤sg∧sg≤16)∧(1≤sl∧sl≤30)∧(0≤rt∧rt≤8)∧inS x
instance (sg sl:Int) (x:Nat) (rt:Int):Decidable (MayC sg sl x rt):=by unfold MayC inS; infer_instance
theorem lay1 (sg sl rt:Int) (x:Nat) (w:World):LiesC (w.alloc (.cells #[.int .i64 sg,.int .i64 sl,.float .f64 x,.int .i64 rt] 24)) w.heap.size sg sl x rt:=by
 refine ⟨by simp,?_,?_,?_,?_⟩ <;> simp [World.cell?_alloc_at]
theorem lay2 (sg sl rt:Int) (x:Nat) (w:World):LiesC ((w.alloc (.cells #[.int .i64 sg,.int .i64 sl,.float .f64 x,.int .i64 rt] 24)).alloc (.cells #[.func (.func 148) #[] #[],.func (.func 150) #[] #[],.func (.func 151) #[] #[],.func (.func 152) #[] #[]] 186)) w.heap.size sg sl x rt∧LiesQ ((w.alloc (.cells #[.int .i64 sg,.int .i64 sl,.float .f64 x,.int .i64 rt] 24)).alloc (.cells #[.func (.func 148) #[] #[],.func (.func 150) #[] #[],.func (.func 151) #[] #[],.func (.func 152) #[] #[]] 186)) (w.heap.size+1):=by
 refine ⟨(lay1 sg sl rt x w).later ((Below.refl _ _).alloc (Nat.le_refl _) _),?_⟩
 have e:(w.alloc (.cells #[.int .i64 sg,.int .i64 sl,.float .f64 x,.int .i64 rt] 24)).heap.size=w.heap.size+1:=by simp
 rw [← e]
 refine ⟨by simp,?_,?_,?_,?_⟩ <;> simp [World.cell?_alloc_at]
theorem below2 (sg sl rt:Int) (x:Nat) (w:World):Below w.heap.size w ((w.alloc (.cells #[.int .i64 sg,.int .i64 sl,.float .f64 x,.int .i64 rt] 24)).alloc (.cells #[.func (.func 148) #[] #[],.func (.func 150) #[] #[],.func (.func 151) #[] #[],.func (.func 152) #[] #[]] 186)):=((Below.refl _ _).alloc (Nat.le_refl _) _).alloc (by simp) _
theorem conf_0 (sg sl rt:Int) (x:Nat) (w:World) (h0:¬ (4≤sg∧sg≤16)) :
 Calls Tryz.prog 55 #[.agg #[.int .i64 sg,.int .i64 sl,.float .f64 x,.int .i64 rt]] w fun e w'=>e=.returned (.int .i64 1)∧Below w.heap.size w w':=by
 obtain ⟨L,M⟩:=lay2 sg sl rt x w
 have C:=Lib.hid (con_0 sg sl rt x _ _ _ _ (Below.refl _ _) L M h0)
 have hz:=(below2 sg sl rt x w).size
 clear L M
 go_enter Tryz.func55,Tryz.ntmps55
 go_wp2_with fail
 refine (questions_any _).mono ?_
 rintro e w' ⟨rfl,rfl⟩
 go_wp2_with fail
 refine C.out.mono ?_
 rintro e w1 ⟨rfl,hb⟩
 go_wp2_with fail
 go_ret
 exact ⟨rfl,(below2 sg sl rt x w).trans (hb.mono hz)⟩
theorem conf_1 (sg sl rt:Int) (x:Nat) (w:World) (h0:4≤sg∧sg≤16) (h1:¬ (1≤sl∧sl≤30)) :
 Calls Tryz.prog 55 #[.agg #[.int .i64 sg,.int .i64 sl,.float .f64 x,.int .i64 rt]] w fun e w'=>e=.returned (.int .i64 1)∧Below w.heap.size w w':=by
 obtain ⟨L,M⟩:=lay2 sg sl rt x w
 have C:=Lib.hid (con_1 sg sl rt x _ _ _ _ (Below.refl _ _) L M h0 h1)
 have hz:=(below2 sg sl rt x w).size
 clear L M
 go_enter Tryz.func55,Tryz.ntmps55
 go_wp2_with fail
 refine (questions_any _).mono ?_
 rintro e w' ⟨rfl,rfl⟩
 go_wp2_with fail
 refine C.out.mono ?_
 rintro e w1 ⟨rfl,hb⟩
 go_wp2_with fail
 go_ret
 exact ⟨rfl,(below2 sg sl rt x w).trans (hb.mono hz)⟩
theorem conf_2 (sg sl rt:Int) (x:Nat) (w:World) (h0:4≤sg∧sg≤16) (h1:1≤sl∧sl≤30) (h2:¬ (0≤rt∧rt≤8)) :
 Calls Tryz.prog 55 #[.agg #[.int .i64 sg,.int .i64 sl,.float .f64 x,.int .i64 rt]] w fun e w'=>e=.returned (.int .i64 1)∧Below w.heap.size w w':=by
 obtain ⟨L,M⟩:=lay2 sg sl rt x w
 have C:=Lib.hid (con_2 sg sl rt x _ _ _ _ (Below.refl _ _) L M h0 h1 h2)
 have hz:=(below2 sg sl rt x w).size
 clear L M
 go_enter Tryz.func55,Tryz.ntmps55
 go_wp2_with fail
 refine (questions_any _).mono ?_
 rintro e w' ⟨rfl,rfl⟩
 go_wp2_with fail
 refine C.out.mono ?_
 rintro e w1 ⟨rfl,hb⟩
 go_wp2_with fail
 go_ret
 exact ⟨rfl,(below2 sg sl rt x w).trans (hb.mono hz)⟩
theorem conf_3 (sg sl rt:Int) (x:Nat) (w:World) (hx:x<18446744073709551616) (h0:4≤sg∧sg≤16) (h1:1≤sl∧sl≤30) (h2:0≤rt∧rt≤8) (h3:¬ (inS x)) :
 Calls Tryz.prog 55 #[.agg #[.int .i64 sg,.int .i64 sl,.float .f64 x,.int .i64 rt]] w fun e w'=>e=.returned (.int .i64 1)∧Below w.heap.size w w':=by
 obtain ⟨L,M⟩:=lay2 sg sl rt x w
 have C:=Lib.hid (con_3 sg sl rt x _ _ _ _ (Below.refl _ _) L M hx h0 h1 h2 h3)
 have hz:=(below2 sg sl rt x w).size
 clear L M
 go_enter Tryz.func55,Tryz.ntmps55
 go_wp2_with fail
 refine (questions_any _).mono ?_
 rintro e w' ⟨rfl,rfl⟩
 go_wp2_with fail
 refine C.out.mono ?_
 rintro e w1 ⟨rfl,hb⟩
 go_wp2_with fail
 go_ret
 exact ⟨rfl,(below2 sg sl rt x w).trans (hb.mono hz)⟩
theorem conf_4 (sg sl rt:Int) (x:Nat) (w:World) (h0:4≤sg∧sg≤16) (h1:1≤sl∧sl≤30) (h2:0≤rt∧rt≤8) (h3:inS x) :
 Calls Tryz.prog 55 #[.agg #[.int .i64 sg,.int .i64 sl,.float .f64 x,.int .i64 rt]] w fun e w'=>e=.returned (.int .i64 0)∧Below w.heap.size w w':=by
 obtain ⟨L,M⟩:=lay2 sg sl rt x w
 have C:=Lib.hid (con_4 sg sl rt x _ _ _ _ (Below.refl _ _) L M h0 h1 h2 h3)
 have hz:=(below2 sg sl rt x w).size
 clear L M
 go_enter Tryz.func55,Tryz.ntmps55
 go_wp2_with fail
 refine (questions_any _).mono ?_
 rintro e w' ⟨rfl,rfl⟩
 go_wp2_with fail
 refine C.out.mono ?_
 rintro e w1 ⟨rfl,hb⟩
 go_wp2_with fail
 go_ret
 exact ⟨rfl,(below2 sg sl rt x w).trans (hb.mono hz)⟩
theorem conf_yes (sg sl rt:Int) (x:Nat) (w:World) (h:MayC sg sl x rt) :
 Calls Tryz.prog 55 #[.agg #[.int .i64 sg,.int .i64 sl,.float .f64 x,.int .i64 rt]] w fun e w'=>e=.returned (.int .i64 0)∧Below w.heap.size w w' :=
 conf_4 sg sl rt x w h.1 h.2.1 h.2.2.1 h.2.2.2
theorem conf_no (sg sl rt:Int) (x:Nat) (w:World) (hx:x<18446744073709551616) (h:¬ MayC sg sl x rt) :
 Calls Tryz.prog 55 #[.agg #[.int .i64 sg,.int .i64 sl,.float .f64 x,.int .i64 rt]] w fun e w'=>e=.returned (.int .i64 1)∧Below w.heap.size w w':=by
 by_cases h0:4≤sg∧sg≤16
 ·by_cases h1:1≤sl∧sl≤30
  ·by_cases h2:0≤rt∧rt≤8
   ·by_cases h3:inS x
    ·exact absurd ⟨h0,h1,h2,h3⟩ h
    ·exact conf_3 sg sl rt x w hx h0 h1 h2 h3
   ·exact conf_2 sg sl rt x w h0 h1 h2
  ·exact conf_1 sg sl rt x w h0 h1
 ·exact conf_0 sg sl rt x w h0
def ceC (sg sl:Int) (x:Nat) (rt:Int):Int:=if MayC sg sl x rt then 0 else 1
def scC (sg sl:Int) (x:Nat) (rt:Int):Int:=if MayC sg sl x rt then 2+sg*(sl+1) else 0
theorem conf_any (sg sl rt:Int) (x:Nat) (w:World) (hx:x<18446744073709551616) :
 Calls Tryz.prog 55 #[.agg #[.int .i64 sg,.int .i64 sl,.float .f64 x,.int .i64 rt]] w fun e w'=>e=.returned (.int .i64 (ceC sg sl x rt))∧Below w.heap.size w w':=by
 unfold ceC
 by_cases h:MayC sg sl x rt
 ·rw [if_pos h]; exact conf_yes sg sl rt x w h
 ·rw [if_neg h]; exact conf_no sg sl rt x w hx h
theorem prod_bd (a b A B:Int) (a0:0≤a) (a1:a≤A) (b0:0≤b) (b1:b≤B):0≤a*b∧a*b≤A*B :=
 ⟨Int.mul_nonneg a0 b0,Int.mul_le_mul a1 b1 b0 (Int.le_trans a0 a1)⟩
theorem sectors_any (sg sl rt:Int) (x:Nat) (w:World) (hx:x<18446744073709551616) :
 Calls Tryz.prog 57 #[.agg #[.int .i64 sg,.int .i64 sl,.float .f64 x,.int .i64 rt]] w fun e w'=>e=.returned (.int .i64 (scC sg sl x rt))∧Below w.heap.size w w':=by
 have L:=lay1 sg sl rt x w
 obtain ⟨g0,g1,g2,g3,g4⟩:=L
 unfold scC
 by_cases h:MayC sg sl x rt
 ·rw [if_pos h]
  have C:=Lib.hid (fun w=>conf_yes sg sl rt x w h)
  obtain ⟨⟨s0,s1⟩,⟨l0,l1⟩,⟨r0,r1⟩,_⟩:=h
  have p:=prod_bd sg (sl+1) 16 31 (by omega) (by omega) (by omega) (by omega)
  obtain ⟨p0,p1⟩:=p
  clear g0 g1 g2 g3 g4
  go_enter Tryz.func57,Tryz.ntmps57
  go_wp2_with fail
  refine (C.out _).mono ?_
  rintro e w1 ⟨rfl,hb⟩
  obtain ⟨hB,c0,c1,c2,c3⟩:=(lay1 sg sl rt x w).later hb
  go_wp2_with fail
  go_ret
  exact ⟨rfl,((Below.refl _ _).alloc (Nat.le_refl _) _).trans (hb.mono (by simp))⟩
 ·rw [if_neg h]
  have C:=Lib.hid (fun w=>conf_no sg sl rt x w hx h)
  clear h g0 g1 g2 g3 g4
  go_enter Tryz.func57,Tryz.ntmps57
  go_wp2_with fail
  refine (C.out _).mono ?_
  rintro e w1 ⟨rfl,hb⟩
  go_wp2_with fail
  go_ret
  exact ⟨rfl,((Below.refl _ _).alloc (Nat.le_refl _) _).trans (hb.mono (by simp))⟩
namespace R4
set_option maxHeartbeats 1000000 in
theorem may_yes (sg sl rt:Int) (x:Nat) (w:World) (h:MayC sg sl x rt) :
 Calls Tryz.prog 11 #[.agg #[.int .i64 sg,.int .i64 sl,.float .f64 x,.int .i64 rt]] w fun e w'=>e=.returned (.bool true)∧Below w.heap.size w w':=by
 obtain ⟨⟨s0,s1⟩,⟨l0,l1⟩,⟨r0,r1⟩,hs⟩:=h
 unfold inS at hs
 have hx:x<18446744073709551616:=by omega
 have kc:=kd_cases x hx
 have kx:=key_spec x
 have C1:=Lib.hid (fun w=>R3.kind_any x w hx)
 have hk:kd x=3∨kd x=4∨kd x=5:=by omega
 have o2:(FloatKind.f64.format.order x 4607182418800017408 == some .lt || FloatKind.f64.format.order x 4607182418800017408 == some .eq)=true:=by
  by_cases g:key x=4607182418800017408
  ·rw [oeq x _ hx (by omega) (by omega) (by omega) (by rw [key_1]; omega)]; rfl
  ·rw [olt x _ hx (by omega) (by omega) (by omega) (by rw [key_1]; omega)]; rfl
 clear hs kc kx hx
 rcases hk with hk|hk|hk
 all_goals
  rw [hk] at C1
  clear hk
  go_enter Tryz.func11,Tryz.ntmps11
  go_wp2_with fail
  refine (C1.out _).mono ?_
  rintro e w' ⟨rfl,rfl⟩
  go_wp2_with fail
  go_ret
  exact ⟨rfl,(Below.refl _ _).alloc (Nat.le_refl _) _⟩
set_option maxHeartbeats 1000000 in
theorem may_no (sg sl rt:Int) (x:Nat) (w:World) (hx:x<18446744073709551616) (h:¬ MayC sg sl x rt) :
 Calls Tryz.prog 11 #[.agg #[.int .i64 sg,.int .i64 sl,.float .f64 x,.int .i64 rt]] w fun e w'=>e=.returned (.bool false)∧Below w.heap.size w w':=by
 have C1:=Lib.hid (fun w=>R3.kind_any x w hx)
 have kc:=kd_cases x hx
 have kx:=key_spec x
 unfold MayC inS at h
 by_cases t0:4≤sg
 case neg =>
  clear h kc kx hx
  generalize kd x=K at *
  go_enter Tryz.func11,Tryz.ntmps11
  go_wp2_with fail
  refine (C1.out _).mono ?_
  rintro e w' ⟨rfl,rfl⟩
  go_wp2_with fail
  go_ret
  exact ⟨rfl,(Below.refl _ _).alloc (Nat.le_refl _) _⟩
 case pos =>
 by_cases t1:sg≤16
 case neg =>
  clear h kc kx hx
  generalize kd x=K at *
  go_enter Tryz.func11,Tryz.ntmps11
  go_wp2_with fail
  refine (C1.out _).mono ?_
  rintro e w' ⟨rfl,rfl⟩
  go_wp2_with fail
  go_ret
  exact ⟨rfl,(Below.refl _ _).alloc (Nat.le_refl _) _⟩
 case pos =>
 by_cases t2:1≤sl
 case neg =>
  clear h kc kx hx
  generalize kd x=K at *
  go_enter Tryz.func11,Tryz.ntmps11
  go_wp2_with fail
  refine (C1.out _).mono ?_
  rintro e w' ⟨rfl,rfl⟩
  go_wp2_with fail
  go_ret
  exact ⟨rfl,(Below.refl _ _).alloc (Nat.le_refl _) _⟩
 case pos =>
 by_cases t3:sl≤30
 case neg =>
  clear h kc kx hx
  generalize kd x=K at *
  go_enter Tryz.func11,Tryz.ntmps11
  go_wp2_with fail
  refine (C1.out _).mono ?_
  rintro e w' ⟨rfl,rfl⟩
  go_wp2_with fail
  go_ret
  exact ⟨rfl,(Below.refl _ _).alloc (Nat.le_refl _) _⟩
 case pos =>
 by_cases t4:0≤rt
 case neg =>
  clear h kc kx hx
  generalize kd x=K at *
  go_enter Tryz.func11,Tryz.ntmps11
  go_wp2_with fail
  refine (C1.out _).mono ?_
  rintro e w' ⟨rfl,rfl⟩
  go_wp2_with fail
  go_ret
  exact ⟨rfl,(Below.refl _ _).alloc (Nat.le_refl _) _⟩
 case pos =>
 by_cases t5:rt≤8
 case neg =>
  clear h kc kx hx
  generalize kd x=K at *
  go_enter Tryz.func11,Tryz.ntmps11
  go_wp2_with fail
  refine (C1.out _).mono ?_
  rintro e w' ⟨rfl,rfl⟩
  go_wp2_with fail
  go_ret
  exact ⟨rfl,(Below.refl _ _).alloc (Nat.le_refl _) _⟩
 case pos =>
 have hs:¬ (x≤4607182418800017408∨x=9223372036854775808):=fun q=>h ⟨⟨t0,t1⟩,⟨t2,t3⟩,⟨t4,t5⟩,q⟩
 by_cases k5:kd x=5
 ·have o2:=ogt x 4607182418800017408 hx (by omega) (by omega) (by omega) (by rw [key_1]; omega)
  rw [k5] at C1
  clear h kc kx hx hs k5
  go_enter Tryz.func11,Tryz.ntmps11
  go_wp2_with fail
  refine (C1.out _).mono ?_
  rintro e w' ⟨rfl,rfl⟩
  go_wp2_with fail
  go_ret
  exact ⟨rfl,(Below.refl _ _).alloc (Nat.le_refl _) _⟩
 ·have e3:(kd x == 3)=false:=by rw [beq_eq_false_iff_ne]; omega
  have e4:(kd x == 4)=false:=by rw [beq_eq_false_iff_ne]; omega
  have e5:(kd x == 5)=false:=by rw [beq_eq_false_iff_ne]; omega
  clear h kc kx hx hs k5
  generalize kd x=K at *
  go_enter Tryz.func11,Tryz.ntmps11
  go_wp2_with fail
  refine (C1.out _).mono ?_
  rintro e w' ⟨rfl,rfl⟩
  go_wp2_with fail
  go_ret
  exact ⟨rfl,(Below.refl _ _).alloc (Nat.le_refl _) _⟩
theorem sectors_any (sg sl rt:Int) (x:Nat) (w:World) (hx:x<18446744073709551616) :
 Calls Tryz.prog 34 #[.agg #[.int .i64 sg,.int .i64 sl,.float .f64 x,.int .i64 rt]] w fun e w'=>e=.returned (.int .i64 (scC sg sl x rt))∧Below w.heap.size w w':=by
 have L:=lay1 sg sl rt x w
 obtain ⟨g0,g1,g2,g3,g4⟩:=L
 unfold scC
 by_cases h:MayC sg sl x rt
 ·rw [if_pos h]
  have C:=Lib.hid (fun w=>may_yes sg sl rt x w h)
  obtain ⟨⟨s0,s1⟩,⟨l0,l1⟩,⟨r0,r1⟩,_⟩:=h
  have p:=prod_bd sg (sl+1) 16 31 (by omega) (by omega) (by omega) (by omega)
  obtain ⟨p0,p1⟩:=p
  clear g0 g1 g2 g3 g4
  go_enter Tryz.func34,Tryz.ntmps34
  go_wp2_with fail
  refine (C.out _).mono ?_
  rintro e w1 ⟨rfl,hb⟩
  obtain ⟨hB,c0,c1,c2,c3⟩:=(lay1 sg sl rt x w).later hb
  go_wp2_with fail
  go_ret
  exact ⟨rfl,((Below.refl _ _).alloc (Nat.le_refl _) _).trans (hb.mono (by simp))⟩
 ·rw [if_neg h]
  have C:=Lib.hid (fun w=>may_no sg sl rt x w hx h)
  clear h g0 g1 g2 g3 g4
  go_enter Tryz.func34,Tryz.ntmps34
  go_wp2_with fail
  refine (C.out _).mono ?_
  rintro e w1 ⟨rfl,hb⟩
  go_wp2_with fail
  go_ret
  exact ⟨rfl,((Below.refl _ _).alloc (Nat.le_refl _) _).trans (hb.mono (by simp))⟩
end R4
end Go.Proofs.YtcnohlgigmmefaaGreat.Ck
