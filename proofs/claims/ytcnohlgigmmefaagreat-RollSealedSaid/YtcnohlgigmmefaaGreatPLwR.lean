/- A part. -/
import Derived.Test.YtcnohlgigmmefaaGreatPLwW
import Derived.Test.YtcnohlgigmmefaaGreatPLwC
import Derived.Test.YtcnohlgigmmefaaGreatPLwK
import Derived.Test.YtcnohlgigmmefaaGreatPShelf
import Derived.Test.YtcnohlgigmmefaaGreatPMem
import Derived.Test.YtcnohlgigmmefaaGreatPClass
import Derived.Deep.QuietTactic
import Derived.BigQuiet
import Derived.Deep.RegionWith
import Derived.Deep.MidRow
import Derived.Laws.ResultCell
namespace Go.Proofs.YtcnohlgigmmefaaGreat.Rc
open Go.RowKit Go.Lib
set_option linter.unusedVariables false
set_option maxRecDepth 100000
open Go.RowKit Go.Lib Wd Cr Ck
set_option linter.unusedVariables false
structure Rec where
 l:Int
 e:Int
 k:Int
 v:Int
 d:Int
 i:List UInt8
 a:List UInt8
structure Fits (r:Rec):Prop where
 l0:0≤r.l
 l1:r.l<18446744073709551616
 e0:0≤r.e
 e1:r.e<4294967296
 v0:0≤r.v
 v1:r.v<18446744073709551616
 d0:0≤r.d
 d1:r.d<18446744073709551616
def okR (r:Rec):Bool:=decide (r.l≠0∧((r.k=1∧idB r.i=true∧r.a.length≤64)∨(r.k=2∧idB r.i=true∧r.a=[]∧r.d=0)∨(r.k=3∧r.i=[]∧r.a=[]∧r.v=0∧r.d<16)))
theorem okR_iff (r:Rec):okR r=true↔r.l≠0∧((r.k=1∧idB r.i=true∧r.a.length≤64)∨(r.k=2∧idB r.i=true∧r.a=[]∧r.d=0)∨(r.k=3∧r.i=[]∧r.a=[]∧r.v=0∧r.d<16)):=by
 unfold okR; rw [decide_eq_true_iff]
theorem idB_le {l:List UInt8} (h:idB l=true):l.length≤16:=by
 unfold idB at h
 rw [Bool.and_eq_true,decide_eq_true_iff] at h
 omega
theorem okR_i {r:Rec} (h:okR r=true):r.i.length≤16:=by
 rcases ((okR_iff r).1 h).2 with h|h|h
 ·exact idB_le h.2.1
 ·exact idB_le h.2.1
 ·rw [h.2.1]; simp
theorem okR_a {r:Rec} (h:okR r=true):r.a.length≤64:=by
 rcases ((okR_iff r).1 h).2 with h|h|h
 ·exact h.2.2
 ·rw [h.2.2.1]; simp
 ·rw [h.2.2.1]; simp
theorem okR_k {r:Rec} (h:okR r=true):1≤r.k∧r.k≤3:=by
 rcases ((okR_iff r).1 h).2 with h|h|h <;> omega
def stampL (r:Rec):List UInt8:=putL r.l.toNat 8++putL r.e.toNat 4
def fieldsL (r:Rec):List UInt8:=stampL r++putL r.k.toNat 1++putL r.i.length 1++putL r.a.length 1++putL r.v.toNat 8++putL r.d.toNat 8++r.i++r.a
def bodyL (r:Rec):List UInt8:=fieldsL r++List.replicate (112-(fieldsL r).length) 0
def secL (r:Rec):List UInt8:=bodyL r++putL (Crc.more 0 (bodyL r)) 4++stampL r
theorem stampL_len (r:Rec):(stampL r).length=12:=by simp [stampL,putL_length]
theorem fieldsL_len (r:Rec):(fieldsL r).length=31+r.i.length+r.a.length:=by
 simp [fieldsL,stampL_len,putL_length]; omega
theorem bodyL_len {r:Rec} (h:okR r=true):(bodyL r).length=112:=by
 have h1:=okR_i h
 have h2:=okR_a h
 rw [bodyL,List.length_append,List.length_replicate,fieldsL_len]; omega
theorem secL_len {r:Rec} (h:okR r=true):(secL r).length=128:=by
 rw [secL,List.length_append,List.length_append,bodyL_len h,putL_length,stampL_len]
def cutR (s:List UInt8):Rec :=
 { l:=(getN (s.take 8):Nat),e:=(getN ((s.drop 8).take 4):Nat),k:=(getN ((s.drop 12).take 1):Nat),v:=(getN ((s.drop 15).take 8):Nat),d:=(getN ((s.drop 23).take 8):Nat),
   i:=(s.drop 31).take (getN ((s.drop 13).take 1)),a:=(s.drop (31+(getN ((s.drop 13).take 1)))).take (getN ((s.drop 14).take 1)) }
theorem getN_lt_of (l:List UInt8) (k n:Nat) (h:l.length≤k) (hk:k≤8) (hn:256 ^ k=n):getN l<n:=by
 unfold getN
 rw [← hn]
 exact leN_lt_of (by rw [List.length_take]; omega)
theorem cutR_fits (s:List UInt8):Fits (cutR s):=by
 have h1:=getN_lt (s.take 8)
 have h2:=getN_lt_of ((s.drop 8).take 4) 4 4294967296 (by rw [List.length_take]; omega) (by omega) (by decide)
 have h3:=getN_lt ((s.drop 15).take 8)
 have h4:=getN_lt ((s.drop 23).take 8)
 constructor <;> simp only [cutR] <;> omega
theorem getN_putL (n k:Nat) (h:k≤8):getN (putL n k)=n%256 ^ k:=by
 unfold getN
 rw [List.take_of_length_le (by rw [putL_length]; exact h),leN_putL]
theorem take_at (p q r:List UInt8) (n m:Nat) (hp:p.length=n) (hq:q.length=m):((p++(q++r)).drop n).take m=q:=by
 rw [List.drop_append_of_le_length (by omega),List.drop_of_length_le (by omega),List.nil_append,List.take_append_of_le_length (by omega),List.take_of_length_le (by omega)]
theorem cutR_secL {r:Rec} (hf:Fits r) (h:okR r=true):cutR (secL r)=r:=by
 have hi:=okR_i h
 have ha:=okR_a h
 have hk:=okR_k h
 obtain ⟨l0,l1,e0,e1,v0,v1,d0,d1⟩:=hf
 obtain ⟨Z,hZ⟩:∃ Z,Z=List.replicate (112-(fieldsL r).length) 0++(putL (Crc.more 0 (bodyL r)) 4++stampL r):=⟨_,rfl⟩
 have e:secL r=putL r.l.toNat 8++(putL r.e.toNat 4++(putL r.k.toNat 1++(putL r.i.length 1++(putL r.a.length 1++(putL r.v.toNat 8++(putL r.d.toNat 8++(r.i++(r.a++Z)))))))):=by
  have e0:secL r=fieldsL r++Z:=by
   rw [secL,hZ,List.append_assoc]
   generalize putL (Crc.more 0 (bodyL r)) 4++stampL r=T
   rw [bodyL,List.append_assoc]
  rw [e0]
  clear e0 hZ
  simp only [fieldsL,stampL,List.append_assoc]
 have f0:((secL r).take 8)=putL r.l.toNat 8:=by
  have:=take_at [] (putL r.l.toNat 8) (putL r.e.toNat 4++(putL r.k.toNat 1++(putL r.i.length 1++(putL r.a.length 1++(putL r.v.toNat 8++(putL r.d.toNat 8++(r.i++(r.a++Z)))))))) 0 8 rfl (putL_length _ _)
  rw [e]; simpa using this
 have f1:(((secL r).drop 8).take 4)=putL r.e.toNat 4:=by
  rw [e]; exact take_at _ _ _ _ _ (putL_length _ _) (putL_length _ _)
 have f2:(((secL r).drop 12).take 1)=putL r.k.toNat 1:=by
  rw [e]
  have:=take_at (putL r.l.toNat 8++putL r.e.toNat 4) (putL r.k.toNat 1) (putL r.i.length 1++(putL r.a.length 1++(putL r.v.toNat 8++(putL r.d.toNat 8++(r.i++(r.a++Z)))))) 12 1 (by simp [putL_length]) (putL_length _ _)
  simpa [List.append_assoc] using this
 have f3:(((secL r).drop 13).take 1)=putL r.i.length 1:=by
  rw [e]
  have:=take_at (putL r.l.toNat 8++putL r.e.toNat 4++putL r.k.toNat 1) (putL r.i.length 1) (putL r.a.length 1++(putL r.v.toNat 8++(putL r.d.toNat 8++(r.i++(r.a++Z))))) 13 1 (by simp [putL_length]) (putL_length _ _)
  simpa [List.append_assoc] using this
 have f4:(((secL r).drop 14).take 1)=putL r.a.length 1:=by
  rw [e]
  have:=take_at (putL r.l.toNat 8++putL r.e.toNat 4++putL r.k.toNat 1++putL r.i.length 1) (putL r.a.length 1) (putL r.v.toNat 8++(putL r.d.toNat 8++(r.i++(r.a++Z)))) 14 1 (by simp [putL_length]) (putL_length _ _)
  simpa [List.append_assoc] using this
 have f5:(((secL r).drop 15).take 8)=putL r.v.toNat 8:=by
  rw [e]
  have:=take_at (putL r.l.toNat 8++putL r.e.toNat 4++putL r.k.toNat 1++putL r.i.length 1++putL r.a.length 1) (putL r.v.toNat 8) (putL r.d.toNat 8++(r.i++(r.a++Z))) 15 8 (by simp [putL_length]) (putL_length _ _)
  simpa [List.append_assoc] using this
 have f6:(((secL r).drop 23).take 8)=putL r.d.toNat 8:=by
  rw [e]
  have:=take_at (putL r.l.toNat 8++putL r.e.toNat 4++putL r.k.toNat 1++putL r.i.length 1++putL r.a.length 1++putL r.v.toNat 8) (putL r.d.toNat 8) (r.i++(r.a++Z)) 23 8 (by simp [putL_length]) (putL_length _ _)
  simpa [List.append_assoc] using this
 have f7:(((secL r).drop 31).take r.i.length)=r.i:=by
  rw [e]
  have:=take_at (putL r.l.toNat 8++putL r.e.toNat 4++putL r.k.toNat 1++putL r.i.length 1++putL r.a.length 1++putL r.v.toNat 8++putL r.d.toNat 8) r.i (r.a++Z) 31 r.i.length (by simp [putL_length]) rfl
  simpa [List.append_assoc] using this
 have f8:(((secL r).drop (31+r.i.length)).take r.a.length)=r.a:=by
  rw [e]
  have:=take_at (putL r.l.toNat 8++putL r.e.toNat 4++putL r.k.toNat 1++putL r.i.length 1++putL r.a.length 1++putL r.v.toNat 8++putL r.d.toNat 8++r.i) r.a Z (31+r.i.length) r.a.length (by simp [putL_length]; omega) rfl
  simpa [List.append_assoc] using this
 have g:∀ (n k:Nat),k≤8→n<256 ^ k→getN (putL n k)=n:=fun n k hk hn=>by rw [getN_putL n k hk,Nat.mod_eq_of_lt hn]
 have g3:getN (putL r.i.length 1)=r.i.length:=g _ 1 (by omega) (by omega)
 have g4:getN (putL r.a.length 1)=r.a.length:=g _ 1 (by omega) (by omega)
 have g0:getN (putL r.l.toNat 8)=r.l.toNat:=g _ 8 (by omega) (by omega)
 have g1:getN (putL r.e.toNat 4)=r.e.toNat:=g _ 4 (by omega) (by omega)
 have g2:getN (putL r.k.toNat 1)=r.k.toNat:=g _ 1 (by omega) (by omega)
 have g5:getN (putL r.v.toNat 8)=r.v.toNat:=g _ 8 (by omega) (by omega)
 have g6:getN (putL r.d.toNat 8)=r.d.toNat:=g _ 8 (by omega) (by omega)
 have q0:((r.l.toNat:Nat):Int)=r.l:=Int.toNat_of_nonneg l0
 have q1:((r.e.toNat:Nat):Int)=r.e:=Int.toNat_of_nonneg e0
 have q2:((r.k.toNat:Nat):Int)=r.k:=Int.toNat_of_nonneg (by omega)
 have q5:((r.v.toNat:Nat):Int)=r.v:=Int.toNat_of_nonneg v0
 have q6:((r.d.toNat:Nat):Int)=r.d:=Int.toNat_of_nonneg d0
 unfold cutR
 rw [f0,f1,f2,f3,f4,f5,f6,g3,g4,f7,f8,g0,g1,g2,g5,g6,q0,q1,q2,q5,q6]
def isSec (s:List UInt8):Bool:=okR (cutR s) && decide (secL (cutR s)=s)
theorem isSec_iff (s:List UInt8):isSec s=true↔okR (cutR s)=true∧secL (cutR s)=s:=by
 unfold isSec; rw [Bool.and_eq_true,decide_eq_true_iff]
theorem isSec_secL {r:Rec} (hf:Fits r) (h:okR r=true):isSec (secL r)=true:=by
 rw [isSec_iff,cutR_secL hf h]; exact ⟨h,rfl⟩
theorem secL_last {r:Rec} (h:okR r=true):(secL r).drop 116=stampL r:=by
 unfold secL
 rw [List.drop_append_of_le_length (by rw [List.length_append,bodyL_len h,putL_length]; omega),List.drop_of_length_le (by rw [List.length_append,bodyL_len h,putL_length]; omega),List.nil_append]
open Go.RowKit Go.Lib Wd Cr Ck
set_option linter.unusedVariables false
theorem nil_iff (s:ByteArray):s.toList=[]↔s.data.toList=[]:=by rw [toList_data]
theorem right_zero (l e k v d:Int) (i a:ByteArray) (w:World) (hl:l=0) :
 Calls Tryz.prog 131 #[.agg #[.int .u64 l,.int .u32 e,.int .i64 k,.int .u64 v,.int .u64 d,.string i,.string a]] w fun e' w'=>e' = .returned (.bool false)∧Below w.heap.size w w':=by
 subst hl
 go_enter Tryz.func131,Tryz.ntmps131
 go_wp2_with fail
 go_ret
 exact ⟨rfl,(Below.refl _ _).alloc (Nat.le_refl _) _⟩
theorem right_live (l e k v d:Int) (i a:ByteArray) (w:World) (hl:(l == 0)=false) (hs:i.size≤maxLen) (ha:a.size≤maxLen) (hk:k=1) :
 Calls Tryz.prog 131 #[.agg #[.int .u64 l,.int .u32 e,.int .i64 k,.int .u64 v,.int .u64 d,.string i,.string a]] w fun e' w'=>e' = .returned (.bool (idB i.data.toList && vaB a.size))∧Below w.heap.size w w':=by
 subst hk
 have C:=Lib.hid (fun w=>id_any i w hs)
 have D:=Lib.hid (fun w=>value_any a w ha)
 cases hi:idB i.data.toList
 ·rw [hi] at C
  go_enter Tryz.func131,Tryz.ntmps131
  go_wp2_with fail
  refine (C.out _).mono ?_
  rintro e' w' ⟨rfl,rfl⟩
  go_wp2_with fail
  go_ret
  exact ⟨rfl,(Below.refl _ _).alloc (Nat.le_refl _) _⟩
 ·rw [hi] at C
  generalize vaB a.size=B at *
  go_enter Tryz.func131,Tryz.ntmps131
  go_wp2_with fail
  refine (C.out _).mono ?_
  rintro e' w' ⟨rfl,rfl⟩
  go_wp2_with fail
  refine (D.out _).mono ?_
  rintro e' w' ⟨rfl,rfl⟩
  go_wp2_with fail
  go_ret
  exact ⟨ret_bool (by simp),(Below.refl _ _).alloc (Nat.le_refl _) _⟩
set_option maxHeartbeats 1000000 in
theorem right_tomb (l e k v d:Int) (i a:ByteArray) (w:World) (hl:(l == 0)=false) (hs:i.size≤maxLen) (hk:k=2) :
 Calls Tryz.prog 131 #[.agg #[.int .u64 l,.int .u32 e,.int .i64 k,.int .u64 v,.int .u64 d,.string i,.string a]] w fun e' w'=>e' = .returned (.bool (idB i.data.toList && decide (a.data.toList=[]∧d=0)))∧Below w.heap.size w w':=by
 subst hk
 have C:=Lib.hid (fun w=>id_any i w hs)
 cases hi:idB i.data.toList
 ·rw [hi] at C
  go_enter Tryz.func131,Tryz.ntmps131
  go_wp2_with fail
  refine (C.out _).mono ?_
  rintro e' w' ⟨rfl,rfl⟩
  go_wp2_with fail
  go_ret
  exact ⟨rfl,(Below.refl _ _).alloc (Nat.le_refl _) _⟩
 ·rw [hi] at C
  by_cases hd:d=0
  ·by_cases ha:a.toList=[]
   ·have Q:=Lib.hid ((nil_iff a).1 ha)
    go_enter Tryz.func131,Tryz.ntmps131
    go_wp2_with fail
    refine (C.out _).mono ?_
    rintro e' w' ⟨rfl,rfl⟩
    go_wp2_with fail
    go_ret
    exact ⟨ret_bool (by rw [Bool.true_and,decide_eq_true ⟨Q.out,hd⟩]),(Below.refl _ _).alloc (Nat.le_refl _) _⟩
   ·have Q:=Lib.hid (fun h=>ha ((nil_iff a).2 h))
    go_enter Tryz.func131,Tryz.ntmps131
    go_wp2_with fail
    refine (C.out _).mono ?_
    rintro e' w' ⟨rfl,rfl⟩
    go_wp2_with fail
    go_ret
    exact ⟨ret_bool (by rw [Bool.true_and,decide_eq_false (fun h=>Q.out h.1)]),(Below.refl _ _).alloc (Nat.le_refl _) _⟩
  ·go_enter Tryz.func131,Tryz.ntmps131
   go_wp2_with fail
   refine (C.out _).mono ?_
   rintro e' w' ⟨rfl,rfl⟩
   go_wp2_with fail
   go_ret
   exact ⟨ret_bool (by rw [Bool.true_and,decide_eq_false (fun h=>hd h.2)]),(Below.refl _ _).alloc (Nat.le_refl _) _⟩
set_option maxHeartbeats 1000000 in
theorem right_foot (l e k v d:Int) (i a:ByteArray) (w:World) (hl:(l == 0)=false) (hk:k=3) :
 Calls Tryz.prog 131 #[.agg #[.int .u64 l,.int .u32 e,.int .i64 k,.int .u64 v,.int .u64 d,.string i,.string a]] w fun e' w'=>e' = .returned (.bool (decide (d<16) && decide (v=0∧i.data.toList=[]∧a.data.toList=[])))∧Below w.heap.size w w':=by
 subst hk
 by_cases hd:d<16
 ·by_cases hv:v=0
  ·by_cases hi:i.toList=[]
   ·by_cases ha:a.toList=[]
    ·have Q:=Lib.hid ((nil_iff a).1 ha)
     have Q':=Lib.hid ((nil_iff i).1 hi)
     go_enter Tryz.func131,Tryz.ntmps131
     go_wp2_with fail
     go_ret
     exact ⟨ret_bool (by rw [decide_eq_true hd,Bool.true_and,decide_eq_true ⟨hv,Q'.out,Q.out⟩]),(Below.refl _ _).alloc (Nat.le_refl _) _⟩
    ·have Q:=Lib.hid (fun h=>ha ((nil_iff a).2 h))
     go_enter Tryz.func131,Tryz.ntmps131
     go_wp2_with fail
     go_ret
     exact ⟨ret_bool (by rw [decide_eq_true hd,Bool.true_and,decide_eq_false (fun h=>Q.out h.2.2)]),(Below.refl _ _).alloc (Nat.le_refl _) _⟩
   ·have Q:=Lib.hid (fun h=>hi ((nil_iff i).2 h))
    go_enter Tryz.func131,Tryz.ntmps131
    go_wp2_with fail
    go_ret
    exact ⟨ret_bool (by rw [decide_eq_true hd,Bool.true_and,decide_eq_false (fun h=>Q.out h.2.1)]),(Below.refl _ _).alloc (Nat.le_refl _) _⟩
  ·go_enter Tryz.func131,Tryz.ntmps131
   go_wp2_with fail
   go_ret
   exact ⟨ret_bool (by rw [decide_eq_true hd,Bool.true_and,decide_eq_false (fun h=>hv h.1)]),(Below.refl _ _).alloc (Nat.le_refl _) _⟩
 ·go_enter Tryz.func131,Tryz.ntmps131
  go_wp2_with fail
  go_ret
  exact ⟨ret_bool (by rw [decide_eq_false (by omega:¬ d<16),Bool.false_and]),(Below.refl _ _).alloc (Nat.le_refl _) _⟩
theorem right_none (l e k v d:Int) (i a:ByteArray) (w:World) (hl:(l == 0)=false) (h1:(k == 1)=false) (h2:(k == 2)=false) (h3:(k == 3)=false) :
 Calls Tryz.prog 131 #[.agg #[.int .u64 l,.int .u32 e,.int .i64 k,.int .u64 v,.int .u64 d,.string i,.string a]] w fun e' w'=>e' = .returned (.bool false)∧Below w.heap.size w w':=by
 go_enter Tryz.func131,Tryz.ntmps131
 go_wp2_with fail
 go_ret
 exact ⟨rfl,(Below.refl _ _).alloc (Nat.le_refl _) _⟩
theorem right_any (l e k v d:Int) (i a:ByteArray) (B:Bool) (w:World) (hs:i.size≤maxLen) (ha:a.size≤maxLen) (hB:okR ⟨l,e,k,v,d,i.data.toList,a.data.toList⟩=B) :
 Calls Tryz.prog 131 #[.agg #[.int .u64 l,.int .u32 e,.int .i64 k,.int .u64 v,.int .u64 d,.string i,.string a]] w fun e' w'=>e' = .returned (.bool B)∧Below w.heap.size w w':=by
 subst hB
 have hsz:=Go.Lib.size_eq a
 by_cases hl:l=0
 ·have e0:okR ⟨l,e,k,v,d,i.data.toList,a.data.toList⟩=false:=by
   rw [Bool.eq_false_iff]; intro h; exact ((okR_iff _).1 h).1 hl
  rw [e0]; exact right_zero l e k v d i a w hl
 have hl' : (l == 0)=false:=by rw [beq_eq_false_iff_ne]; exact hl
 by_cases h1:k=1
 ·have e0:okR ⟨l,e,k,v,d,i.data.toList,a.data.toList⟩=(idB i.data.toList && vaB a.size):=by
   rw [Bool.eq_iff_iff,okR_iff,Bool.and_eq_true,vaB,decide_eq_true_iff,hsz]
   constructor
   ·rintro ⟨_,h|h|h⟩
    ·exact h.2
    ·have:=h.1; simp only at this; omega
    ·have:=h.1; simp only at this; omega
   ·intro h; exact ⟨hl,Or.inl ⟨h1,h⟩⟩
  rw [e0]; exact right_live l e k v d i a w hl' hs ha h1
 by_cases h2:k=2
 ·have e0:okR ⟨l,e,k,v,d,i.data.toList,a.data.toList⟩=(idB i.data.toList && decide (a.data.toList=[]∧d=0)):=by
   rw [Bool.eq_iff_iff,okR_iff,Bool.and_eq_true,decide_eq_true_iff]
   constructor
   ·rintro ⟨_,h|h|h⟩
    ·have:=h.1; simp only at this; omega
    ·exact h.2
    ·have:=h.1; simp only at this; omega
   ·intro h; exact ⟨hl,Or.inr (Or.inl ⟨h2,h⟩)⟩
  rw [e0]; exact right_tomb l e k v d i a w hl' hs h2
 by_cases h3:k=3
 ·have e0:okR ⟨l,e,k,v,d,i.data.toList,a.data.toList⟩=(decide (d<16) && decide (v=0∧i.data.toList=[]∧a.data.toList=[])):=by
   rw [Bool.eq_iff_iff,okR_iff,Bool.and_eq_true,decide_eq_true_iff,decide_eq_true_iff]
   constructor
   ·rintro ⟨_,h|h|h⟩
    ·have:=h.1; simp only at this; omega
    ·have:=h.1; simp only at this; omega
    ·exact ⟨h.2.2.2.2,h.2.2.2.1,h.2.1,h.2.2.1⟩
   ·intro h; exact ⟨hl,Or.inr (Or.inr ⟨h3,h.2.2.1,h.2.2.2,h.2.1,h.1⟩)⟩
  rw [e0]; exact right_foot l e k v d i a w hl' h3
 ·have e0:okR ⟨l,e,k,v,d,i.data.toList,a.data.toList⟩=false:=by
   rw [Bool.eq_false_iff]; intro h
   rcases ((okR_iff _).1 h).2 with h|h|h
   ·exact h1 h.1
   ·exact h2 h.1
   ·exact h3 h.1
  rw [e0]
  exact right_none l e k v d i a w hl' (by rw [beq_eq_false_iff_ne]; exact h1) (by rw [beq_eq_false_iff_ne]; exact h2) (by rw [beq_eq_false_iff_ne]; exact h3)
open Go.RowKit Go.Lib Wd Cr Ck
set_option linter.unusedVariables false
theorem bcell {W w1:World} (hb:Below W.heap.size W w1):(∀ b o,b<W.heap.size→w1.cell? ⟨b,o,none⟩=W.cell? ⟨b,o,none⟩)∧(∀ b o,b<W.heap.size→w1.frozen? ⟨b,o,none⟩=W.frozen? ⟨b,o,none⟩) :=
 ⟨fun b o h=>hb.cell (p:=⟨b,o,none⟩) h,fun b o h=>hb.frozen (p:=⟨b,o,none⟩) h⟩
structure LiesR (W:World) (B:Nat) (l e k v d:Int) (i a:ByteArray):Prop where
 lt:B<W.heap.size
 c0:W.cell? ⟨B,0,none⟩=some (.int .u64 l)
 c1:W.cell? ⟨B,1,none⟩=some (.int .u32 e)
 c2:W.cell? ⟨B,2,none⟩=some (.int .i64 k)
 c3:W.cell? ⟨B,3,none⟩=some (.int .u64 v)
 c4:W.cell? ⟨B,4,none⟩=some (.int .u64 d)
 c5:W.cell? ⟨B,5,none⟩=some (.string i)
 c6:W.cell? ⟨B,6,none⟩=some (.string a)
theorem LiesR.later {W w:World} {B:Nat} {l e k v d:Int} {i a:ByteArray} (h:LiesR W B l e k v d i a) (hb:Below W.heap.size W w):LiesR w B l e k v d i a :=
 have e:=(bcell hb).1
 ⟨Nat.lt_of_lt_of_le h.lt hb.size,(e _ _ h.lt).trans h.c0,(e _ _ h.lt).trans h.c1,(e _ _ h.lt).trans h.c2,(e _ _ h.lt).trans h.c3,(e _ _ h.lt).trans h.c4,(e _ _ h.lt).trans h.c5,(e _ _ h.lt).trans h.c6⟩
theorem layR (l e k v d:Int) (i a:ByteArray) (t:TypeId) (w:World):LiesR (w.alloc (.cells #[.int .u64 l,.int .u32 e,.int .i64 k,.int .u64 v,.int .u64 d,.string i,.string a] t)) w.heap.size l e k v d i a:=by
 refine ⟨by simp,?_,?_,?_,?_,?_,?_,?_⟩ <;> simp [World.cell?_alloc_at]
structure InvR (w:World) (B:Nat) (l e k v d:Int) (i a:ByteArray) (W:World):Prop where
 b:Below w.heap.size w W
 m:LiesR W B l e k v d i a
theorem InvR.drawn {w W:World} {B:Nat} {l e k v d:Int} {i a:ByteArray} (h:InvR w B l e k v d i a W):InvR w B l e k v d i a { W with drawn:=W.drawn+1 } :=
 ⟨⟨h.b.os,h.b.tape,h.b.output,h.b.size,h.b.block⟩,⟨h.m.lt,h.m.c0,h.m.c1,h.m.c2,h.m.c3,h.m.c4,h.m.c5,h.m.c6⟩⟩
theorem inv_ge {w W:World} {B:Nat} {l e k v d:Int} {i a:ByteArray} {P:Program} {f:FuncId} {args:Array Value} {x:Value} (h:InvR w B l e k v d i a W) (c:Calls P f args W fun e' w'=>e' = .returned x∧Below W.heap.size W w') :
 Calls P f args W fun e' w'=>e' = .returned x∧InvR w B l e k v d i a w' :=
 c.mono fun _ _ ⟨he,hb⟩=>⟨he,Wd.Ge.trans h.b hb,h.m.later hb⟩
theorem inv0 (l e k v d:Int) (i a:ByteArray) (t:TypeId) (w:World):InvR w w.heap.size l e k v d i a (w.alloc (.cells #[.int .u64 l,.int .u32 e,.int .i64 k,.int .u64 v,.int .u64 d,.string i,.string a] t)) :=
 ⟨(Below.refl _ _).alloc (Nat.le_refl _) _,layR l e k v d i a t w⟩
theorem app_is {S T U:ByteArray} (h:S.data.toList++T.data.toList=U.data.toList):S++T=U:=by
 apply ByteArray.ext
 rw [ByteArray.data_append]
 apply Array.toList_inj.1
 rw [Array.toList_append]; exact h
set_option maxHeartbeats 1000000 in
theorem stamp_any (l e k v d:Int) (i a:ByteArray) (S:ByteArray) (w:World) (hl0:0≤l) (hl1:l<18446744073709551616) (he0:0≤e) (he1:e<4294967296) (hS:stampL ⟨l,e,k,v,d,i.data.toList,a.data.toList⟩=S.data.toList) :
 Calls Tryz.prog 195 #[.agg #[.int .u64 l,.int .u32 e,.int .i64 k,.int .u64 v,.int .u64 d,.string i,.string a]] w fun e' w'=>e' = .returned (.string S)∧Below w.heap.size w w':=by
 have h0:=inv0 l e k v d i a 97 w
 obtain ⟨S1,H1⟩:∃ S1:ByteArray,Hid ((⟨(putL l.toNat (clampN 8)).toArray⟩:ByteArray)=S1):=⟨_,rfl⟩
 obtain ⟨S2,H2⟩:∃ S2:ByteArray,Hid ((⟨(putL e.toNat (clampN 4)).toArray⟩:ByteArray)=S2):=⟨_,rfl⟩
 have J:Hid (S1++S2=S):=by
  refine Lib.hid (app_is ?_)
  rw [← H1.out,← H2.out,← hS]
  rfl
 have z1:S1.size=8:=by rw [← H1.out]; exact put_size _ _
 have z2:S2.size=4:=by rw [← H2.out]; exact put_size _ _
 have hz:¬ 9223372036854775807<S1.size+S2.size:=by omega
 clear z1 z2 hS
 go_enter Tryz.func195,Tryz.ntmps195
 go_wp2_with fail
 have hne:Nonempty (In (InvR w w.heap.size l e k v d i a)):=⟨⟨_,h0⟩⟩
 have F0:∀ j:In (InvR w w.heap.size l e k v d i a),j.W.cell? ⟨w.heap.size,0,none⟩=some (.int .u64 l):=fun j=>j.h.m.c0
 have F1:∀ j:In (InvR w w.heap.size l e k v d i a),j.W.cell? ⟨w.heap.size,1,none⟩=some (.int .u32 e):=fun j=>j.h.m.c1
 refine region_class (InvR w w.heap.size l e k v d i a) (by kernel_rfl) (by kernel_rfl) h0.drawn ?_
 repeat (go_big_quiet_step (first
  | (go_at_call 193; with_reducible exact class_call _ (fun hi=>inv_ge hi (put_at l 8 S1 _ hl0 hl1 H1.out)))
  | (go_at_call 193; with_reducible exact class_call _ (fun hi=>inv_ge hi (put_at e 4 S2 _ he0 (by omega) H2.out)))))
 refine wpQuiet_nil ?_
 rintro _ ⟨j,rfl⟩
 go_wp2_with fail
 go_ret
 exact ⟨by rw [J.out]; rfl,j.h.b⟩
theorem rep0 (c:Nat):repeatL [(0:UInt8)] c=List.replicate c 0:=by
 induction c with
 | zero=>rfl
 | succ c ih=>rw [repeatL,ih,List.replicate_succ]; rfl
set_option maxHeartbeats 4000000 in
set_option maxRecDepth 100000 in
theorem body_any (l e k v d:Int) (i a:ByteArray) (S:ByteArray) (w:World) (hf:Fits ⟨l,e,k,v,d,i.data.toList,a.data.toList⟩) (h:okR ⟨l,e,k,v,d,i.data.toList,a.data.toList⟩=true) (hS:bodyL ⟨l,e,k,v,d,i.data.toList,a.data.toList⟩=S.data.toList) :
 Calls Tryz.prog 192 #[.agg #[.int .u64 l,.int .u32 e,.int .i64 k,.int .u64 v,.int .u64 d,.string i,.string a]] w fun e' w'=>e' = .returned (.string S)∧Below w.heap.size w w':=by
 have hk:=okR_k h
 have hi:=okR_i h
 have ha:=okR_a h
 have hlen:=fieldsL_len ⟨l,e,k,v,d,i.data.toList,a.data.toList⟩
 simp only at hk hi ha hlen
 obtain ⟨l0,l1,e0,e1,v0,v1,d0,d1⟩:=hf
 simp only at l0 l1 e0 e1 v0 v1 d0 d1
 have hik:=Go.Lib.size_eq i
 have hak:=Go.Lib.size_eq a
 have h0:=inv0 l e k v d i a 97 w
 obtain ⟨T0,H0⟩:∃ T:ByteArray,Hid (stampL ⟨l,e,k,v,d,i.data.toList,a.data.toList⟩=T.data.toList):=⟨⟨(stampL ⟨l,e,k,v,d,i.data.toList,a.data.toList⟩).toArray⟩,Lib.hid (by simp)⟩
 obtain ⟨T1,H1⟩:∃ T:ByteArray,Hid ((⟨(putL k.toNat (clampN 1)).toArray⟩:ByteArray)=T):=⟨_,rfl⟩
 obtain ⟨T2,H2⟩:∃ T:ByteArray,Hid ((⟨(putL ((i.size:Int)).toNat (clampN 1)).toArray⟩:ByteArray)=T):=⟨_,rfl⟩
 obtain ⟨T3,H3⟩:∃ T:ByteArray,Hid ((⟨(putL ((a.size:Int)).toNat (clampN 1)).toArray⟩:ByteArray)=T):=⟨_,rfl⟩
 obtain ⟨T4,H4⟩:∃ T:ByteArray,Hid ((⟨(putL v.toNat (clampN 8)).toArray⟩:ByteArray)=T):=⟨_,rfl⟩
 obtain ⟨T5,H5⟩:∃ T:ByteArray,Hid ((⟨(putL d.toNat (clampN 8)).toArray⟩:ByteArray)=T):=⟨_,rfl⟩
 have z0:T0.size=12:=by rw [Go.Lib.size_eq,← H0.out]; exact stampL_len _
 have z1:T1.size=1:=by rw [← H1.out]; exact put_size _ _
 have z2:T2.size=1:=by rw [← H2.out]; exact put_size _ _
 have z3:T3.size=1:=by rw [← H3.out]; exact put_size _ _
 have z4:T4.size=8:=by rw [← H4.out]; exact put_size _ _
 have z5:T5.size=8:=by rw [← H5.out]; exact put_size _ _
 obtain ⟨U1,J1⟩:∃ U,T0++T1=U:=⟨_,rfl⟩
 obtain ⟨U2,J2⟩:∃ U,U1++T2=U:=⟨_,rfl⟩
 obtain ⟨U3,J3⟩:∃ U,U2++T3=U:=⟨_,rfl⟩
 obtain ⟨U4,J4⟩:∃ U,U3++T4=U:=⟨_,rfl⟩
 obtain ⟨U5,J5⟩:∃ U,U4++T5=U:=⟨_,rfl⟩
 obtain ⟨U6,J6⟩:∃ U,U5++i=U:=⟨_,rfl⟩
 obtain ⟨U7,J7⟩:∃ U,U6++a=U:=⟨_,rfl⟩
 have y1:U1.size=13:=by rw [← J1,ByteArray.size_append]; omega
 have y2:U2.size=14:=by rw [← J2,ByteArray.size_append]; omega
 have y3:U3.size=15:=by rw [← J3,ByteArray.size_append]; omega
 have y4:U4.size=23:=by rw [← J4,ByteArray.size_append]; omega
 have y5:U5.size=31:=by rw [← J5,ByteArray.size_append]; omega
 have y6:U6.size=31+i.size:=by rw [← J6,ByteArray.size_append]; omega
 have y7:U7.size=31+i.size+a.size:=by rw [← J7,ByteArray.size_append]; omega
 have q1:¬ 9223372036854775807<T0.size+T1.size:=by omega
 have q2:¬ 9223372036854775807<U1.size+T2.size:=by omega
 have q3:¬ 9223372036854775807<U2.size+T3.size:=by omega
 have q4:¬ 9223372036854775807<U3.size+T4.size:=by omega
 have q5:¬ 9223372036854775807<U4.size+T5.size:=by omega
 have q6:¬ 9223372036854775807<U5.size+i.size:=by omega
 have q7:¬ 9223372036854775807<U6.size+a.size:=by omega
 obtain ⟨c,hc⟩:∃ c:Nat,112-(U7.size:Int)=(c:Int):=⟨112-U7.size,by omega⟩
 have cb:c≤112:=by omega
 have E7:Hid (U7.data.toList=fieldsL ⟨l,e,k,v,d,i.data.toList,a.data.toList⟩):=by
  refine Lib.hid ?_
  rw [← J7,← J6,← J5,← J4,← J3,← J2,← J1]
  simp only [ByteArray.data_append,Array.toList_append,← H0.out,← H1.out,← H2.out,← H3.out,← H4.out,← H5.out,hik,hak]
  rfl
 obtain ⟨Z,HZ⟩:∃ Z:ByteArray,Hid ((⟨(repeatL ((⟨#[0]⟩:ByteArray).data.toList) c).toArray⟩:ByteArray)=Z):=⟨_,rfl⟩
 have JS:Hid (U7++Z=S):=by
  refine Lib.hid (app_is ?_)
  rw [E7.out,← HZ.out,← hS,bodyL,hlen]
  have ec:c=112-(31+i.data.toList.length+a.data.toList.length):=by omega
  rw [← ec,← rep0 c]
 have zz:Z.size=c:=by rw [← HZ.out,Go.Lib.size_eq]; simp [repeatL_length]
 have q8:¬ 9223372036854775807<U7.size+Z.size:=by omega
 have C:=Lib.hid (fun w=>Sh.strings_Repeat ⟨#[0]⟩ c w (by omega) (by show 1*c≤_; omega))
 rw [HZ.out] at C
 have kb0:0≤k:=by omega
 have kb1:k<256:=by omega
 have ib:(i.size:Int)<256:=by omega
 have ab:(a.size:Int)<256:=by omega
 clear z0 z1 z2 z3 z4 z5 y1 y2 y3 y4 y5 y6 y7 zz hlen hi ha hik hak hS hk cb h
 go_enter Tryz.func192,Tryz.ntmps192
 go_wp2_with fail
 have hne:Nonempty (In (InvR w w.heap.size l e k v d i a)):=⟨⟨_,h0⟩⟩
 have F0:∀ j:In (InvR w w.heap.size l e k v d i a),j.W.cell? ⟨w.heap.size,0,none⟩=some (.int .u64 l):=fun j=>j.h.m.c0
 have F1:∀ j:In (InvR w w.heap.size l e k v d i a),j.W.cell? ⟨w.heap.size,1,none⟩=some (.int .u32 e):=fun j=>j.h.m.c1
 have F2:∀ j:In (InvR w w.heap.size l e k v d i a),j.W.cell? ⟨w.heap.size,2,none⟩=some (.int .i64 k):=fun j=>j.h.m.c2
 have F3:∀ j:In (InvR w w.heap.size l e k v d i a),j.W.cell? ⟨w.heap.size,3,none⟩=some (.int .u64 v):=fun j=>j.h.m.c3
 have F4:∀ j:In (InvR w w.heap.size l e k v d i a),j.W.cell? ⟨w.heap.size,4,none⟩=some (.int .u64 d):=fun j=>j.h.m.c4
 have F5:∀ j:In (InvR w w.heap.size l e k v d i a),j.W.cell? ⟨w.heap.size,5,none⟩=some (.string i):=fun j=>j.h.m.c5
 have F6:∀ j:In (InvR w w.heap.size l e k v d i a),j.W.cell? ⟨w.heap.size,6,none⟩=some (.string a):=fun j=>j.h.m.c6
 refine region_class (InvR w w.heap.size l e k v d i a) (by kernel_rfl) (by kernel_rfl) h0.drawn ?_
 repeat (go_big_quiet_step (first
  | (go_at_call 195; with_reducible exact class_call _ (fun hi=>inv_ge hi (stamp_any l e k v d i a T0 _ l0 l1 e0 e1 H0.out)))
  | (go_at_call 193; with_reducible exact class_call _ (fun hi=>inv_ge hi (put_at k 1 T1 _ kb0 (by omega) H1.out)))
  | (go_at_call 193; with_reducible exact class_call _ (fun hi=>inv_ge hi (put_at (i.size:Int) 1 T2 _ (by omega) (by omega) H2.out)))
  | (go_at_call 193; with_reducible exact class_call _ (fun hi=>inv_ge hi (put_at (a.size:Int) 1 T3 _ (by omega) (by omega) H3.out)))
  | (go_at_call 193; with_reducible exact class_call _ (fun hi=>inv_ge hi (put_at v 8 T4 _ v0 v1 H4.out)))
  | (go_at_call 193; with_reducible exact class_call _ (fun hi=>inv_ge hi (put_at d 8 T5 _ d0 d1 H5.out)))))
 refine wpQuiet_nil ?_
 rintro _ ⟨j,rfl⟩
 go_wp2_with fail
 refine (C.out _).mono ?_
 rintro e' w' ⟨rfl,hb⟩
 go_wp2_with fail
 go_ret
 exact ⟨by rw [JS.out]; rfl,Wd.Ge.trans j.h.b hb⟩
open Go.RowKit Go.Lib Wd Cr Ck
set_option linter.unusedVariables false
theorem sum_is (s:ByteArray) (M:Int) (w:World) (hs:s.size≤maxLen) (hM:((Crc.more 0 s.data.toList:Nat):Int)=M) :
 Calls Tryz.prog 194 #[.string s] w fun e w'=>e=.returned (.int .u32 M)∧Below w.heap.size w w':=by
 subst hM; exact sum_any s w hs
theorem encode_no (l e k v d:Int) (i a:ByteArray) (w:World) (hs:i.size≤maxLen) (ha:a.size≤maxLen) (h:okR ⟨l,e,k,v,d,i.data.toList,a.data.toList⟩=false) :
 Calls Tryz.prog 159 #[.agg #[.int .u64 l,.int .u32 e,.int .i64 k,.int .u64 v,.int .u64 d,.string i,.string a]] w fun e' w'=>e' = .returned (.tuple #[.string ⟨#[]⟩,.int .i64 5])∧Below w.heap.size w w':=by
 have C:=Lib.hid (fun w=>right_any l e k v d i a false w hs ha h)
 have B0:=Lib.hid ((Below.refl w.heap.size w).alloc (Nat.le_refl _) (.cells #[.int .u64 l,.int .u32 e,.int .i64 k,.int .u64 v,.int .u64 d,.string i,.string a] 97))
 go_enter Tryz.func159,Tryz.ntmps159
 go_wp2_with fail
 refine (C.out _).mono ?_
 rintro e' w1 ⟨rfl,hb⟩
 go_wp2_with fail
 go_ret2
 exact ⟨rfl,B0.out.trans (hb.mono B0.out.size)⟩
set_option maxHeartbeats 4000000 in
set_option maxRecDepth 100000 in
theorem encode_yes (l e k v d:Int) (i a:ByteArray) (S:ByteArray) (w:World) (hf:Fits ⟨l,e,k,v,d,i.data.toList,a.data.toList⟩) (h:okR ⟨l,e,k,v,d,i.data.toList,a.data.toList⟩=true) (hS:secL ⟨l,e,k,v,d,i.data.toList,a.data.toList⟩=S.data.toList) :
 Calls Tryz.prog 159 #[.agg #[.int .u64 l,.int .u32 e,.int .i64 k,.int .u64 v,.int .u64 d,.string i,.string a]] w fun e' w'=>e' = .returned (.tuple #[.string S,.int .i64 0])∧Below w.heap.size w w':=by
 have hi:=okR_i h
 have ha:=okR_a h
 simp only at hi ha
 have hik:=Go.Lib.size_eq i
 have hak:=Go.Lib.size_eq a
 have h0:=inv0 l e k v d i a 97 w
 have C:=Lib.hid (fun w=>right_any l e k v d i a true w (by unfold maxLen; omega) (by unfold maxLen; omega) h)
 obtain ⟨b,Hb⟩:∃ T:ByteArray,Hid (bodyL ⟨l,e,k,v,d,i.data.toList,a.data.toList⟩=T.data.toList):=⟨⟨(bodyL ⟨l,e,k,v,d,i.data.toList,a.data.toList⟩).toArray⟩,Lib.hid (by simp)⟩
 have D:=Lib.hid (fun w=>body_any l e k v d i a b w hf h Hb.out)
 obtain ⟨T0,H0⟩:∃ T:ByteArray,Hid (stampL ⟨l,e,k,v,d,i.data.toList,a.data.toList⟩=T.data.toList):=⟨⟨(stampL ⟨l,e,k,v,d,i.data.toList,a.data.toList⟩).toArray⟩,Lib.hid (by simp)⟩
 obtain ⟨M,HM⟩:∃ M:Int,Hid (((Crc.more 0 b.data.toList:Nat):Int)=M):=⟨_,rfl⟩
 have M0:0≤M:=by rw [← HM.out]; omega
 have M1:M<4294967296:=by
  have:=Crc.more_lt b.data.toList (s:=0) (by omega)
  rw [← HM.out]; omega
 obtain ⟨T1,H1⟩:∃ T:ByteArray,Hid ((⟨(putL M.toNat (clampN 4)).toArray⟩:ByteArray)=T):=⟨_,rfl⟩
 have zb:b.size=112:=by rw [Go.Lib.size_eq,← Hb.out]; exact bodyL_len h
 have z0:T0.size=12:=by rw [Go.Lib.size_eq,← H0.out]; exact stampL_len _
 have z1:T1.size=4:=by rw [← H1.out]; exact put_size _ _
 obtain ⟨U1,J1⟩:∃ U,b++T1=U:=⟨_,rfl⟩
 have y1:U1.size=116:=by rw [← J1,ByteArray.size_append]; omega
 have JS:U1++T0=S:=by
  refine app_is ?_
  rw [← J1,ByteArray.data_append,Array.toList_append,← Hb.out,← H0.out,← H1.out,← hS,secL,← HM.out,← Hb.out,Int.toNat_natCast]
  rfl
 have q1:¬ 9223372036854775807<b.size+T1.size:=by omega
 have q2:¬ 9223372036854775807<U1.size+T0.size:=by omega
 have hbs:b.size≤maxLen:=by unfold maxLen; omega
 obtain ⟨l0,l1,e0,e1,v0,v1,d0,d1⟩:=hf
 simp only at l0 l1 e0 e1 v0 v1 d0 d1
 clear hi ha hik hak zb z0 z1 y1 hS h
 go_enter Tryz.func159,Tryz.ntmps159
 go_wp2_with fail
 refine (C.out _).mono ?_
 rintro e' w1 ⟨rfl,hb1⟩
 have h1:InvR w w.heap.size l e k v d i a w1:=⟨Wd.Ge.trans h0.b hb1,h0.m.later hb1⟩
 obtain ⟨g,c0,c1,c2,c3,c4,c5,c6⟩:=h1.m
 go_wp2_with fail
 refine (D.out _).mono ?_
 rintro e' w2 ⟨rfl,hb2⟩
 have h2:InvR w w.heap.size l e k v d i a w2:=⟨Wd.Ge.trans h1.b hb2,h1.m.later hb2⟩
 clear c0 c1 c2 c3 c4 c5 c6 h1 hb1 hb2 h0
 go_wp2_with fail
 have hne:Nonempty (In (InvR w w.heap.size l e k v d i a)):=⟨⟨_,h2⟩⟩
 have F0:∀ j:In (InvR w w.heap.size l e k v d i a),j.W.cell? ⟨w.heap.size,0,none⟩=some (.int .u64 l):=fun j=>j.h.m.c0
 have F1:∀ j:In (InvR w w.heap.size l e k v d i a),j.W.cell? ⟨w.heap.size,1,none⟩=some (.int .u32 e):=fun j=>j.h.m.c1
 have F2:∀ j:In (InvR w w.heap.size l e k v d i a),j.W.cell? ⟨w.heap.size,2,none⟩=some (.int .i64 k):=fun j=>j.h.m.c2
 have F3:∀ j:In (InvR w w.heap.size l e k v d i a),j.W.cell? ⟨w.heap.size,3,none⟩=some (.int .u64 v):=fun j=>j.h.m.c3
 have F4:∀ j:In (InvR w w.heap.size l e k v d i a),j.W.cell? ⟨w.heap.size,4,none⟩=some (.int .u64 d):=fun j=>j.h.m.c4
 have F5:∀ j:In (InvR w w.heap.size l e k v d i a),j.W.cell? ⟨w.heap.size,5,none⟩=some (.string i):=fun j=>j.h.m.c5
 have F6:∀ j:In (InvR w w.heap.size l e k v d i a),j.W.cell? ⟨w.heap.size,6,none⟩=some (.string a):=fun j=>j.h.m.c6
 refine region_class (InvR w w.heap.size l e k v d i a) (by kernel_rfl) (by kernel_rfl) h2.drawn ?_
 repeat (go_big_quiet_step (first
  | (go_at_call 194; with_reducible exact class_call _ (fun hi=>inv_ge hi (sum_is b M _ hbs HM.out)))
  | (go_at_call 195; with_reducible exact class_call _ (fun hi=>inv_ge hi (stamp_any l e k v d i a T0 _ l0 l1 e0 e1 H0.out)))
  | (go_at_call 193; with_reducible exact class_call _ (fun hi=>inv_ge hi (put_at M 4 T1 _ M0 (by omega) H1.out)))))
 refine wpQuiet_nil ?_
 rintro _ ⟨j,rfl⟩
 go_wp2_with fail
 go_ret2
 exact ⟨rfl,j.h.b⟩
open Go.RowKit Go.Lib Wd Cr Ck
set_option linter.unusedVariables false
theorem ext_take (r:ByteArray) (n:Nat):(r.extract 0 n).data.toList=r.data.toList.take n:=by
 simp [ByteArray.data_extract]
theorem ext_drop (r:ByteArray) (n m:Nat) (h:r.size≤m):(r.extract n m).data.toList=r.data.toList.drop n:=by
 simp only [ByteArray.data_extract,Array.toList_extract,List.extract_eq_take_drop]
 rw [List.take_of_length_le]
 rw [List.length_drop,← Go.Lib.size_eq]; omega
theorem bytes_ext {S T:ByteArray} (h:S.data.toList=T.data.toList):S=T:=by
 apply ByteArray.ext; exact Array.toList_inj.1 h
set_option maxHeartbeats 1000000 in
theorem text_any (b n:Nat) (r T D:ByteArray) (w:World) (hc:w.cell? ⟨b,0,none⟩=some (.string r)) (hF:w.frozen? ⟨b,0,none⟩=false) (hr:r.size≤maxLen) (hn:n<256)
 (hT:r.data.toList.take n=T.data.toList) (hD:r.data.toList.drop n=D.data.toList) :
 Calls Tryz.prog 188 #[.int .i64 n,.pointer (some ⟨b,0,none⟩)] w fun e' w'=>e' = .returned (.string T)∧w' = w.setCell ⟨b,0,none⟩ (.string D):=by
 unfold maxLen at hr
 have hni:(n:Int)<256:=by omega
 have hz:=Go.Lib.size_eq r
 have E1:Hid (r.extract 0 (min (n:Int) (r.size:Int)).toNat=T):=by
  refine Lib.hid (bytes_ext ?_)
  rw [ext_take,← hT,List.take_eq_take_iff]; omega
 have E2:Hid (r.extract (min (n:Int) (r.size:Int)).toNat r.size=D):=by
  refine Lib.hid (bytes_ext ?_)
  rw [ext_drop _ _ _ (Nat.le_refl _),← hD]
  by_cases h:n≤r.size
  ·have e:(min (n:Int) (r.size:Int)).toNat=n:=by omega
   rw [e]
  ·rw [List.drop_of_length_le (by omega),List.drop_of_length_le (by omega)]
 clear hT hD hz
 go_enter Tryz.func188,Tryz.ntmps188
 go_wp2_with fail
 go_ret
 exact ⟨by rw [← E1.out]; rfl,by rw [E2.out]⟩
theorem size_setCell (W:World) (p:Addr) (v:Value):(W.setCell p v).heap.size=W.heap.size:=by simp [World.setCell]
structure CutW (w:World) (N:Nat) (r:ByteArray) (l e k v d:Int) (i a:ByteArray) (W:World):Prop where
 b:Below N w W
 sz:N+4≤W.heap.size
 rest:W.cell? ⟨N+1,0,none⟩=some (.string r)
 restF:W.frozen? ⟨N+1,0,none⟩=false
 fn:W.cell? ⟨N+1+1,0,none⟩=some (.func (.func 188) #[] #[.pointer (some ⟨N+1,0,none⟩)])
 m:LiesR W (N+1+1+1) l e k v d i a
 mF:∀ j,j<7→W.frozen? ⟨N+1+1+1,j,none⟩=false
 o:LiesR W N 0 0 0 0 0 ⟨#[]⟩ ⟨#[]⟩
 oF:∀ j,j<7→W.frozen? ⟨N,j,none⟩=false
theorem CutW.later {w W W' : World} {N:Nat} {r:ByteArray} {l e k v d:Int} {i a:ByteArray} (h:CutW w N r l e k v d i a W) (hb:Below W.heap.size W W'):CutW w N r l e k v d i a W' :=
 have hs:=h.sz
 ⟨h.b.trans (hb.mono (by omega)),Nat.le_trans hs hb.size,((bcell hb).1 _ _ (by omega)).trans h.rest,((bcell hb).2 _ _ (by omega)).trans h.restF,((bcell hb).1 _ _ (by omega)).trans h.fn,h.m.later hb,
  fun j hj=>((bcell hb).2 _ _ (by omega)).trans (h.mF j hj),h.o.later hb,fun j hj=>((bcell hb).2 _ _ (by omega)).trans (h.oF j hj)⟩
theorem ne_b {b b' o o' : Nat} (h:b≠b'):(⟨b,o,none⟩:Addr)≠⟨b',o',none⟩:=by intro e; injection e with e1 _; exact h e1
theorem ne_o {b o o' : Nat} (h:o≠o'):(⟨b,o,none⟩:Addr)≠⟨b,o',none⟩:=by intro e; injection e with _ e1; exact h e1
theorem liesR_set {W:World} {B:Nat} {l e k v d:Int} {i a:ByteArray} (h:LiesR W B l e k v d i a) (b o:Nat) (u:Value) (hb:b≠B):LiesR (W.setCell ⟨b,o,none⟩ u) B l e k v d i a:=by
 refine ⟨by rw [size_setCell]; exact h.lt,?_,?_,?_,?_,?_,?_,?_⟩ <;> rw [World.cell?_setCell_other _ _ _ _ (ne_b hb)]
 ·exact h.c0
 ·exact h.c1
 ·exact h.c2
 ·exact h.c3
 ·exact h.c4
 ·exact h.c5
 ·exact h.c6
theorem CutW.setRest {w W:World} {N:Nat} {r:ByteArray} {l e k v d:Int} {i a:ByteArray} (h:CutW w N r l e k v d i a W) (D:ByteArray):CutW w N D l e k v d i a (W.setCell ⟨N+1,0,none⟩ (.string D)) :=
 ⟨h.b.setCell (by show N≤N+1; omega) _,by rw [size_setCell]; exact h.sz,World.cell?_setCell_same _ _ _ h.rest,by rw [World.frozen?_setCell]; exact h.restF,
  by rw [World.cell?_setCell_other _ _ _ _ (ne_b (by omega))]; exact h.fn,liesR_set h.m _ _ _ (by omega),fun j hj=>by rw [World.frozen?_setCell]; exact h.mF j hj,liesR_set h.o _ _ _ (by omega),fun j hj=>by rw [World.frozen?_setCell]; exact h.oF j hj⟩
theorem CutW.set0 {w W:World} {N:Nat} {r:ByteArray} {l e k v d:Int} {i a:ByteArray} (h:CutW w N r l e k v d i a W) (x:Int):CutW w N r x e k v d i a (W.setCell ⟨N+1+1+1,0,none⟩ (.int .u64 x)) :=
 ⟨h.b.setCell (by show N≤N+1+1+1; omega) _,by rw [size_setCell]; exact h.sz,by rw [World.cell?_setCell_other _ _ _ _ (ne_b (by omega))]; exact h.rest,by rw [World.frozen?_setCell]; exact h.restF,
  by rw [World.cell?_setCell_other _ _ _ _ (ne_b (by omega))]; exact h.fn,⟨by rw [size_setCell]; exact h.m.lt,World.cell?_setCell_same _ _ _ h.m.c0,by rw [World.cell?_setCell_other _ _ _ _ (ne_o (by omega))]; exact h.m.c1,by rw [World.cell?_setCell_other _ _ _ _ (ne_o (by omega))]; exact h.m.c2,by rw [World.cell?_setCell_other _ _ _ _ (ne_o (by omega))]; exact h.m.c3,by rw [World.cell?_setCell_other _ _ _ _ (ne_o (by omega))]; exact h.m.c4,by rw [World.cell?_setCell_other _ _ _ _ (ne_o (by omega))]; exact h.m.c5,by rw [World.cell?_setCell_other _ _ _ _ (ne_o (by omega))]; exact h.m.c6⟩,fun j hj=>by rw [World.frozen?_setCell]; exact h.mF j hj,liesR_set h.o _ _ _ (by omega),fun j hj=>by rw [World.frozen?_setCell]; exact h.oF j hj⟩
theorem CutW.set1 {w W:World} {N:Nat} {r:ByteArray} {l e k v d:Int} {i a:ByteArray} (h:CutW w N r l e k v d i a W) (x:Int):CutW w N r l x k v d i a (W.setCell ⟨N+1+1+1,1,none⟩ (.int .u32 x)) :=
 ⟨h.b.setCell (by show N≤N+1+1+1; omega) _,by rw [size_setCell]; exact h.sz,by rw [World.cell?_setCell_other _ _ _ _ (ne_b (by omega))]; exact h.rest,by rw [World.frozen?_setCell]; exact h.restF,
  by rw [World.cell?_setCell_other _ _ _ _ (ne_b (by omega))]; exact h.fn,⟨by rw [size_setCell]; exact h.m.lt,by rw [World.cell?_setCell_other _ _ _ _ (ne_o (by omega))]; exact h.m.c0,World.cell?_setCell_same _ _ _ h.m.c1,by rw [World.cell?_setCell_other _ _ _ _ (ne_o (by omega))]; exact h.m.c2,by rw [World.cell?_setCell_other _ _ _ _ (ne_o (by omega))]; exact h.m.c3,by rw [World.cell?_setCell_other _ _ _ _ (ne_o (by omega))]; exact h.m.c4,by rw [World.cell?_setCell_other _ _ _ _ (ne_o (by omega))]; exact h.m.c5,by rw [World.cell?_setCell_other _ _ _ _ (ne_o (by omega))]; exact h.m.c6⟩,fun j hj=>by rw [World.frozen?_setCell]; exact h.mF j hj,liesR_set h.o _ _ _ (by omega),fun j hj=>by rw [World.frozen?_setCell]; exact h.oF j hj⟩
theorem CutW.set2 {w W:World} {N:Nat} {r:ByteArray} {l e k v d:Int} {i a:ByteArray} (h:CutW w N r l e k v d i a W) (x:Int):CutW w N r l e x v d i a (W.setCell ⟨N+1+1+1,2,none⟩ (.int .i64 x)) :=
 ⟨h.b.setCell (by show N≤N+1+1+1; omega) _,by rw [size_setCell]; exact h.sz,by rw [World.cell?_setCell_other _ _ _ _ (ne_b (by omega))]; exact h.rest,by rw [World.frozen?_setCell]; exact h.restF,
  by rw [World.cell?_setCell_other _ _ _ _ (ne_b (by omega))]; exact h.fn,⟨by rw [size_setCell]; exact h.m.lt,by rw [World.cell?_setCell_other _ _ _ _ (ne_o (by omega))]; exact h.m.c0,by rw [World.cell?_setCell_other _ _ _ _ (ne_o (by omega))]; exact h.m.c1,World.cell?_setCell_same _ _ _ h.m.c2,by rw [World.cell?_setCell_other _ _ _ _ (ne_o (by omega))]; exact h.m.c3,by rw [World.cell?_setCell_other _ _ _ _ (ne_o (by omega))]; exact h.m.c4,by rw [World.cell?_setCell_other _ _ _ _ (ne_o (by omega))]; exact h.m.c5,by rw [World.cell?_setCell_other _ _ _ _ (ne_o (by omega))]; exact h.m.c6⟩,fun j hj=>by rw [World.frozen?_setCell]; exact h.mF j hj,liesR_set h.o _ _ _ (by omega),fun j hj=>by rw [World.frozen?_setCell]; exact h.oF j hj⟩
theorem CutW.set3 {w W:World} {N:Nat} {r:ByteArray} {l e k v d:Int} {i a:ByteArray} (h:CutW w N r l e k v d i a W) (x:Int):CutW w N r l e k x d i a (W.setCell ⟨N+1+1+1,3,none⟩ (.int .u64 x)) :=
 ⟨h.b.setCell (by show N≤N+1+1+1; omega) _,by rw [size_setCell]; exact h.sz,by rw [World.cell?_setCell_other _ _ _ _ (ne_b (by omega))]; exact h.rest,by rw [World.frozen?_setCell]; exact h.restF,
  by rw [World.cell?_setCell_other _ _ _ _ (ne_b (by omega))]; exact h.fn,⟨by rw [size_setCell]; exact h.m.lt,by rw [World.cell?_setCell_other _ _ _ _ (ne_o (by omega))]; exact h.m.c0,by rw [World.cell?_setCell_other _ _ _ _ (ne_o (by omega))]; exact h.m.c1,by rw [World.cell?_setCell_other _ _ _ _ (ne_o (by omega))]; exact h.m.c2,World.cell?_setCell_same _ _ _ h.m.c3,by rw [World.cell?_setCell_other _ _ _ _ (ne_o (by omega))]; exact h.m.c4,by rw [World.cell?_setCell_other _ _ _ _ (ne_o (by omega))]; exact h.m.c5,by rw [World.cell?_setCell_other _ _ _ _ (ne_o (by omega))]; exact h.m.c6⟩,fun j hj=>by rw [World.frozen?_setCell]; exact h.mF j hj,liesR_set h.o _ _ _ (by omega),fun j hj=>by rw [World.frozen?_setCell]; exact h.oF j hj⟩
theorem CutW.set4 {w W:World} {N:Nat} {r:ByteArray} {l e k v d:Int} {i a:ByteArray} (h:CutW w N r l e k v d i a W) (x:Int):CutW w N r l e k v x i a (W.setCell ⟨N+1+1+1,4,none⟩ (.int .u64 x)) :=
 ⟨h.b.setCell (by show N≤N+1+1+1; omega) _,by rw [size_setCell]; exact h.sz,by rw [World.cell?_setCell_other _ _ _ _ (ne_b (by omega))]; exact h.rest,by rw [World.frozen?_setCell]; exact h.restF,
  by rw [World.cell?_setCell_other _ _ _ _ (ne_b (by omega))]; exact h.fn,⟨by rw [size_setCell]; exact h.m.lt,by rw [World.cell?_setCell_other _ _ _ _ (ne_o (by omega))]; exact h.m.c0,by rw [World.cell?_setCell_other _ _ _ _ (ne_o (by omega))]; exact h.m.c1,by rw [World.cell?_setCell_other _ _ _ _ (ne_o (by omega))]; exact h.m.c2,by rw [World.cell?_setCell_other _ _ _ _ (ne_o (by omega))]; exact h.m.c3,World.cell?_setCell_same _ _ _ h.m.c4,by rw [World.cell?_setCell_other _ _ _ _ (ne_o (by omega))]; exact h.m.c5,by rw [World.cell?_setCell_other _ _ _ _ (ne_o (by omega))]; exact h.m.c6⟩,fun j hj=>by rw [World.frozen?_setCell]; exact h.mF j hj,liesR_set h.o _ _ _ (by omega),fun j hj=>by rw [World.frozen?_setCell]; exact h.oF j hj⟩
theorem CutW.set5 {w W:World} {N:Nat} {r:ByteArray} {l e k v d:Int} {i a:ByteArray} (h:CutW w N r l e k v d i a W) (x:ByteArray):CutW w N r l e k v d x a (W.setCell ⟨N+1+1+1,5,none⟩ (.string x)) :=
 ⟨h.b.setCell (by show N≤N+1+1+1; omega) _,by rw [size_setCell]; exact h.sz,by rw [World.cell?_setCell_other _ _ _ _ (ne_b (by omega))]; exact h.rest,by rw [World.frozen?_setCell]; exact h.restF,
  by rw [World.cell?_setCell_other _ _ _ _ (ne_b (by omega))]; exact h.fn,⟨by rw [size_setCell]; exact h.m.lt,by rw [World.cell?_setCell_other _ _ _ _ (ne_o (by omega))]; exact h.m.c0,by rw [World.cell?_setCell_other _ _ _ _ (ne_o (by omega))]; exact h.m.c1,by rw [World.cell?_setCell_other _ _ _ _ (ne_o (by omega))]; exact h.m.c2,by rw [World.cell?_setCell_other _ _ _ _ (ne_o (by omega))]; exact h.m.c3,by rw [World.cell?_setCell_other _ _ _ _ (ne_o (by omega))]; exact h.m.c4,World.cell?_setCell_same _ _ _ h.m.c5,by rw [World.cell?_setCell_other _ _ _ _ (ne_o (by omega))]; exact h.m.c6⟩,fun j hj=>by rw [World.frozen?_setCell]; exact h.mF j hj,liesR_set h.o _ _ _ (by omega),fun j hj=>by rw [World.frozen?_setCell]; exact h.oF j hj⟩
theorem CutW.set6 {w W:World} {N:Nat} {r:ByteArray} {l e k v d:Int} {i a:ByteArray} (h:CutW w N r l e k v d i a W) (x:ByteArray):CutW w N r l e k v d i x (W.setCell ⟨N+1+1+1,6,none⟩ (.string x)) :=
 ⟨h.b.setCell (by show N≤N+1+1+1; omega) _,by rw [size_setCell]; exact h.sz,by rw [World.cell?_setCell_other _ _ _ _ (ne_b (by omega))]; exact h.rest,by rw [World.frozen?_setCell]; exact h.restF,
  by rw [World.cell?_setCell_other _ _ _ _ (ne_b (by omega))]; exact h.fn,⟨by rw [size_setCell]; exact h.m.lt,by rw [World.cell?_setCell_other _ _ _ _ (ne_o (by omega))]; exact h.m.c0,by rw [World.cell?_setCell_other _ _ _ _ (ne_o (by omega))]; exact h.m.c1,by rw [World.cell?_setCell_other _ _ _ _ (ne_o (by omega))]; exact h.m.c2,by rw [World.cell?_setCell_other _ _ _ _ (ne_o (by omega))]; exact h.m.c3,by rw [World.cell?_setCell_other _ _ _ _ (ne_o (by omega))]; exact h.m.c4,by rw [World.cell?_setCell_other _ _ _ _ (ne_o (by omega))]; exact h.m.c5,World.cell?_setCell_same _ _ _ h.m.c6⟩,fun j hj=>by rw [World.frozen?_setCell]; exact h.mF j hj,liesR_set h.o _ _ _ (by omega),fun j hj=>by rw [World.frozen?_setCell]; exact h.oF j hj⟩
theorem textC {w W:World} {N:Nat} {r:ByteArray} {l e k v d:Int} {i a:ByteArray} (h:CutW w N r l e k v d i a W) (n:Nat) (z:Int) (hz:(n:Int)=z) (T D:ByteArray) (hr:r.size≤maxLen) (hn:n<256)
 (hT:r.data.toList.take n=T.data.toList) (hD:r.data.toList.drop n=D.data.toList) :
 Calls Tryz.prog 188 #[.int .i64 z,.pointer (some ⟨N+1,0,none⟩)] W fun e' W'=>e' = .returned (.string T)∧CutW w N D l e k v d i a W' :=
 hz ▸ (text_any (N+1) n r T D W h.rest h.restF hr hn hT hD).mono fun _ _ ⟨he,hw⟩=>⟨he,hw ▸ h.setRest D⟩
set_option maxHeartbeats 1000000 in
theorem numberC {w W:World} {N:Nat} {r:ByteArray} {l e k v d:Int} {i a:ByteArray} (h:CutW w N r l e k v d i a W) (n:Nat) (z:Int) (hz:(n:Int)=z) (T D:ByteArray) (g:Int) (hr:r.size≤maxLen) (hn:n<256)
 (hT:r.data.toList.take n=T.data.toList) (hD:r.data.toList.drop n=D.data.toList) (hg:(getN T.data.toList:Int)=g) :
 Calls Tryz.prog 189 #[.int .i64 z,.pointer (some ⟨N+1+1,0,none⟩)] W fun e' W'=>e' = .returned (.int .u64 g)∧CutW w N D l e k v d i a W':=by
 have C:=Lib.hid (textC h n z hz T D hr hn hT hD)
 have F:=h.fn
 clear hT hD hz
 go_enter Tryz.func189,Tryz.ntmps189
 go_wp2_with fail
 refine C.out.mono ?_
 rintro e' w1 ⟨rfl,h1⟩
 go_wp2_with fail
 refine (Wd.get_at T g _ hg).mono ?_
 rintro e' w2 ⟨rfl,hb⟩
 go_wp2_with fail
 go_ret
 exact ⟨rfl,h1.later hb⟩
theorem clone_any (s:ByteArray) (w:World) (hs:s.size≤281474976710656) :
 Calls Tryz.prog 191 #[.string s] w fun e' w'=>e' = .returned (.string s)∧Below w.heap.size w w':=by
 have C:=Lib.hid (fun w=>Sh.stringslite_Clone s w hs)
 go_enter Tryz.func191,Tryz.ntmps191
 go_wp2_with fail
 refine (C.out _).mono ?_
 rintro e' w1 ⟨rfl,hb⟩
 go_wp2_with fail
 go_ret
 exact ⟨rfl,hb⟩
theorem info_rec:(Tryz.prog.info? 97).map (·.size)=some 7:=by kernel_rfl
theorem load_rec {W:World} {B:Nat} {l e k v d:Int} {i a:ByteArray} (h:LiesR W B l e k v d i a):(loadVar 97 ⟨B,0,none⟩).run Tryz.prog W=.ok (.agg #[.int .u64 l,.int .u32 e,.int .i64 k,.int .u64 v,.int .u64 d,.string i,.string a]) W:=by
 have hr:W.rangeAt B 0 [.int .u64 l,.int .u32 e,.int .i64 k,.int .u64 v,.int .u64 d,.string i,.string a]:=by
  intro j u hj
  match j,hj with
  | 0,hj=>cases hj; exact h.c0
  | 1,hj=>cases hj; exact h.c1
  | 2,hj=>cases hj; exact h.c2
  | 3,hj=>cases hj; exact h.c3
  | 4,hj=>cases hj; exact h.c4
  | 5,hj=>cases hj; exact h.c5
  | 6,hj=>cases hj; exact h.c6
  | j+7,hj=>simp at hj
 exact run_loadVar_mid W B 0 97 _ _ hr Tryz.underlying97 rfl info_rec
theorem liesR_put {W:World} {B:Nat} (l e k v d:Int) (i a:ByteArray) (h:W.there B 0 7) (hB:B<W.heap.size):LiesR (W.setCells B 0 (Array.toList #[.int .u64 l,.int .u32 e,.int .i64 k,.int .u64 v,.int .u64 d,.string i,.string a])) B l e k v d i a:=by
 have hr:=World.rangeAt_setCells_same W B 0 [.int .u64 l,.int .u32 e,.int .i64 k,.int .u64 v,.int .u64 d,.string i,.string a] h
 have hz:(W.setCells B 0 [.int .u64 l,.int .u32 e,.int .i64 k,.int .u64 v,.int .u64 d,.string i,.string a]).heap.size=W.heap.size:=by simp [World.setCells]
 exact ⟨by rw [hz]; exact hB,hr 0 _ rfl,hr 1 _ rfl,hr 2 _ rfl,hr 3 _ rfl,hr 4 _ rfl,hr 5 _ rfl,hr 6 _ rfl⟩
theorem there_of {W:World} {B:Nat} {l e k v d:Int} {i a:ByteArray} (h:LiesR W B l e k v d i a) (hF:∀ j,j<7→W.frozen? ⟨B,j,none⟩=false):W.there B 0 7:=by
 intro j hj
 rw [Nat.zero_add]
 refine ⟨?_,hF j hj⟩
 match j,hj with
 | 0,_=>rw [h.c0]; rfl
 | 1,_=>rw [h.c1]; rfl
 | 2,_=>rw [h.c2]; rfl
 | 3,_=>rw [h.c3]; rfl
 | 4,_=>rw [h.c4]; rfl
 | 5,_=>rw [h.c5]; rfl
 | 6,_=>rw [h.c6]; rfl
theorem res_rec1 {fn:Func} {p:Tmp} (h:fn.results=#[.cell p 97]) (tmps:Array Value) (W:World) (B:Nat) {l e k v d:Int} {i a:ByteArray} (hp:tmps.getD p undef=.pointer (some ⟨B,0,none⟩)) (L:LiesR W B l e k v d i a) :
 (results fn tmps).run Tryz.prog W=.ok (.agg #[.int .u64 l,.int .u32 e,.int .i64 k,.int .u64 v,.int .u64 d,.string i,.string a]) W:=by
 have hp' : tmps[p]?.getD undef=.pointer (some ⟨B,0,none⟩):=by simpa using hp
 simp [results,h,hp',asAddr,load_rec L]
theorem res_rec2 {fn:Func} {p u:Tmp} (h:fn.results=#[.cell p 97,.tmp u]) (tmps:Array Value) (W:World) (B:Nat) {l e k v d:Int} {i a:ByteArray} (hp:tmps.getD p undef=.pointer (some ⟨B,0,none⟩)) (L:LiesR W B l e k v d i a) :
 (results fn tmps).run Tryz.prog W=.ok (.tuple #[.agg #[.int .u64 l,.int .u32 e,.int .i64 k,.int .u64 v,.int .u64 d,.string i,.string a],tmps.getD u undef]) W:=by
 have hp' : tmps[p]?.getD undef=.pointer (some ⟨B,0,none⟩):=by simpa using hp
 rw [results_cell_tmp h]
 simp [hp',asAddr,load_rec L,Result.andThen]
theorem cutW0 (s:ByteArray) (w:World):CutW w w.heap.size s 0 0 0 0 0 ⟨#[]⟩ ⟨#[]⟩ ((((w.alloc (.cells #[.int .u64 0,.int .u32 0,.int .i64 0,.int .u64 0,.int .u64 0,.string ⟨#[]⟩,.string ⟨#[]⟩] 97)).alloc (.cells #[.string s] 9)).alloc (.cells #[.func (.func 188) #[] #[.pointer (some ⟨w.heap.size+1,0,none⟩)]] 260)).alloc (.cells #[.int .u64 0,.int .u32 0,.int .i64 0,.int .u64 0,.int .u64 0,.string ⟨#[]⟩,.string ⟨#[]⟩] 97)):=by
 refine ⟨?_,?_,?_,?_,?_,?_,?_,?_,?_⟩
 ·exact ((((Below.refl _ _).alloc (Nat.le_refl _) _).alloc (by simp) _).alloc (by simp; omega) _).alloc (by simp; omega) _
 ·simp
 ·simp [go_sem]
 ·simp [go_sem]
 ·simp [go_sem]
 ·have:=layR 0 0 0 0 0 ⟨#[]⟩ ⟨#[]⟩ 97 (((w.alloc (.cells #[.int .u64 0,.int .u32 0,.int .i64 0,.int .u64 0,.int .u64 0,.string ⟨#[]⟩,.string ⟨#[]⟩] 97)).alloc (.cells #[.string s] 9)).alloc (.cells #[.func (.func 188) #[] #[.pointer (some ⟨w.heap.size+1,0,none⟩)]] 260))
  simpa using this
 ·intro j hj
  simp [go_sem]
 ·exact (((layR 0 0 0 0 0 ⟨#[]⟩ ⟨#[]⟩ 97 w).later ((Below.refl _ _).alloc (Nat.le_refl _) _)).later ((Below.refl _ _).alloc (Nat.le_refl _) _)).later ((Below.refl _ _).alloc (Nat.le_refl _) _)
 ·intro j hj
  simp [go_sem]
theorem put7 {W:World} {B:Nat} (l e k v d:Int) (i a:ByteArray) (h:W.there B 0 7) (hB:B<W.heap.size):LiesR (((((((W.setCell ⟨B,0,none⟩ (.int .u64 l)).setCell ⟨B,1,none⟩ (.int .u32 e)).setCell ⟨B,2,none⟩ (.int .i64 k)).setCell ⟨B,3,none⟩ (.int .u64 v)).setCell ⟨B,4,none⟩ (.int .u64 d)).setCell ⟨B,5,none⟩ (.string i)).setCell ⟨B,6,none⟩ (.string a)) B l e k v d i a:=by
 have:=liesR_put l e k v d i a h hB
 simpa only [World.setCells,Nat.zero_add,Nat.reduceAdd] using this
theorem below7 {W w:World} {B N:Nat} (l e k v d:Int) (i a:ByteArray) (hb:Below N w W) (hN:N≤B):Below N w (((((((W.setCell ⟨B,0,none⟩ (.int .u64 l)).setCell ⟨B,1,none⟩ (.int .u32 e)).setCell ⟨B,2,none⟩ (.int .i64 k)).setCell ⟨B,3,none⟩ (.int .u64 v)).setCell ⟨B,4,none⟩ (.int .u64 d)).setCell ⟨B,5,none⟩ (.string i)).setCell ⟨B,6,none⟩ (.string a)) :=
 ((((((hb.setCell hN _).setCell hN _).setCell hN _).setCell hN _).setCell hN _).setCell hN _).setCell hN _
theorem dropE (s:ByteArray) (n:Nat):∃ D:ByteArray,Hid (s.data.toList.drop n=D.data.toList)∧D.size≤s.size :=
 ⟨⟨(s.data.toList.drop n).toArray⟩,Lib.hid (by simp),by rw [Go.Lib.size_eq,Go.Lib.size_eq]; simp⟩
theorem takeE (l:List UInt8) (n:Nat):∃ T:ByteArray,Hid (l.take n=T.data.toList):=⟨⟨(l.take n).toArray⟩,Lib.hid (by simp)⟩
theorem drop_step {s D D' : ByteArray} {n m k:Nat} (h:s.data.toList.drop n=D.data.toList) (h' : s.data.toList.drop k=D'.data.toList) (e:n+m=k):D.data.toList.drop m=D'.data.toList:=by
 rw [← h,List.drop_drop,e,h']
open Go.RowKit Go.Lib Wd Cr Ck
set_option linter.unusedVariables false
set_option maxHeartbeats 8000000 in
set_option maxRecDepth 100000 in
theorem cut_any (s:ByteArray) (l e k v d:Int) (i a:ByteArray) (w:World) (hs:s.size≤140737488355328) (hR:cutR s.data.toList=⟨l,e,k,v,d,i.data.toList,a.data.toList⟩) :
 Calls Tryz.prog 158 #[.string s] w fun e' w'=>e' = .returned (.agg #[.int .u64 l,.int .u32 e,.int .i64 k,.int .u64 v,.int .u64 d,.string i,.string a])∧Below w.heap.size w w':=by
 have hst:=fun (a:Addr) (f:Fn) (x y:Array Value) (w:World)=>run_store Tryz.prog w a (.func f x y) .plain rfl
 have hml:∀ D:ByteArray,D.size≤s.size→D.size≤maxLen:=fun D h=>by unfold maxLen; omega
 obtain ⟨D1,R1,B1⟩:=dropE s 8
 obtain ⟨D2,R2,B2⟩:=dropE s 12
 obtain ⟨D3,R3,B3⟩:=dropE s 13
 obtain ⟨D4,R4,B4⟩:=dropE s 14
 obtain ⟨D5,R5,B5⟩:=dropE s 15
 obtain ⟨D6,R6,B6⟩:=dropE s 23
 obtain ⟨D7,R7,B7⟩:=dropE s 31
 obtain ⟨T0,Q0⟩:=takeE s.data.toList 8
 obtain ⟨g0,G0⟩:∃ g:Nat,Hid (getN T0.data.toList=g):=⟨_,rfl⟩
 have X0:Hid (T0.data.toList=s.data.toList.take 8):=Lib.hid Q0.out.symm
 obtain ⟨T1,Q1⟩:=takeE D1.data.toList 4
 obtain ⟨g1,G1⟩:∃ g:Nat,Hid (getN T1.data.toList=g):=⟨_,rfl⟩
 have X1:Hid (T1.data.toList=(s.data.toList.drop 8).take 4):=Lib.hid (by rw [← Q1.out,R1.out])
 have b1:(g1:Int)<4294967296:=by
  have:=getN_lt_of T1.data.toList 4 4294967296 (by rw [X1.out,List.length_take]; omega) (by omega) (by decide)
  rw [← G1.out]; omega
 obtain ⟨T2,Q2⟩:=takeE D2.data.toList 1
 obtain ⟨g2,G2⟩:∃ g:Nat,Hid (getN T2.data.toList=g):=⟨_,rfl⟩
 have X2:Hid (T2.data.toList=(s.data.toList.drop 12).take 1):=Lib.hid (by rw [← Q2.out,R2.out])
 have b2:(g2:Int)<256:=by
  have:=getN_lt_of T2.data.toList 1 256 (by rw [X2.out,List.length_take]; omega) (by omega) (by decide)
  rw [← G2.out]; omega
 obtain ⟨T3,Q3⟩:=takeE D3.data.toList 1
 obtain ⟨g3,G3⟩:∃ g:Nat,Hid (getN T3.data.toList=g):=⟨_,rfl⟩
 have X3:Hid (T3.data.toList=(s.data.toList.drop 13).take 1):=Lib.hid (by rw [← Q3.out,R3.out])
 have b3:(g3:Int)<256:=by
  have:=getN_lt_of T3.data.toList 1 256 (by rw [X3.out,List.length_take]; omega) (by omega) (by decide)
  rw [← G3.out]; omega
 obtain ⟨T4,Q4⟩:=takeE D4.data.toList 1
 obtain ⟨g4,G4⟩:∃ g:Nat,Hid (getN T4.data.toList=g):=⟨_,rfl⟩
 have X4:Hid (T4.data.toList=(s.data.toList.drop 14).take 1):=Lib.hid (by rw [← Q4.out,R4.out])
 have b4:(g4:Int)<256:=by
  have:=getN_lt_of T4.data.toList 1 256 (by rw [X4.out,List.length_take]; omega) (by omega) (by decide)
  rw [← G4.out]; omega
 obtain ⟨T5,Q5⟩:=takeE D5.data.toList 8
 obtain ⟨g5,G5⟩:∃ g:Nat,Hid (getN T5.data.toList=g):=⟨_,rfl⟩
 have X5:Hid (T5.data.toList=(s.data.toList.drop 15).take 8):=Lib.hid (by rw [← Q5.out,R5.out])
 obtain ⟨T6,Q6⟩:=takeE D6.data.toList 8
 obtain ⟨g6,G6⟩:∃ g:Nat,Hid (getN T6.data.toList=g):=⟨_,rfl⟩
 have X6:Hid (T6.data.toList=(s.data.toList.drop 23).take 8):=Lib.hid (by rw [← Q6.out,R6.out])
 obtain ⟨D8,R8,B8⟩:=dropE s (31+g3)
 obtain ⟨D9,R9,B9⟩:=dropE s (31+g3+g4)
 have hid:D7.data.toList.take g3=i.data.toList:=by
  have:=congrArg Rec.i hR
  simp only [cutR] at this
  rw [← this,← R7.out,← G3.out,X3.out]
 have hva:D8.data.toList.take g4=a.data.toList:=by
  have:=congrArg Rec.a hR
  simp only [cutR] at this
  rw [← this,← R8.out,← G4.out,X4.out,← X3.out,G3.out]
 have el:(g0:Int)=l:=by
  have:=congrArg Rec.l hR
  simp only [cutR] at this
  rw [← this,← G0.out,X0.out]
 have ee:(g1:Int)=e:=by
  have:=congrArg Rec.e hR
  simp only [cutR] at this
  rw [← this,← G1.out,X1.out]
 have ek:(g2:Int)=k:=by
  have:=congrArg Rec.k hR
  simp only [cutR] at this
  rw [← this,← G2.out,X2.out]
 have ev:(g5:Int)=v:=by
  have:=congrArg Rec.v hR
  simp only [cutR] at this
  rw [← this,← G5.out,X5.out]
 have ed:(g6:Int)=d:=by
  have:=congrArg Rec.d hR
  simp only [cutR] at this
  rw [← this,← G6.out,X6.out]
 rw [ee] at b1
 rw [ek] at b2
 have e0:0≤e:=by omega
 have k0:0≤k:=by omega
 have zi:i.size≤281474976710656:=by
  have:=Go.Lib.size_eq i
  rw [← hid,List.length_take] at this
  omega
 have za:a.size≤281474976710656:=by
  have:=Go.Lib.size_eq a
  rw [← hva,List.length_take] at this
  omega
 have b3' : g3<256:=by omega
 have b4' : g4<256:=by omega
 have N0:=Lib.hid (fun W h=>@numberC w W w.heap.size s 0 0 0 0 0 ⟨#[]⟩ ⟨#[]⟩ h 8 8 rfl T0 D1 l (hml _ (Nat.le_refl _)) (by omega) Q0.out R1.out (by rw [G0.out]; exact el))
 have N1:=Lib.hid (fun W h=>@numberC w W w.heap.size D1 l 0 0 0 0 ⟨#[]⟩ ⟨#[]⟩ h 4 4 rfl T1 D2 e (hml _ B1) (by omega) Q1.out (drop_step R1.out R2.out rfl) (by rw [G1.out]; exact ee))
 have N2:=Lib.hid (fun W h=>@numberC w W w.heap.size D2 l e 0 0 0 ⟨#[]⟩ ⟨#[]⟩ h 1 1 rfl T2 D3 k (hml _ B2) (by omega) Q2.out (drop_step R2.out R3.out rfl) (by rw [G2.out]; exact ek))
 have N3:=Lib.hid (fun W h=>@numberC w W w.heap.size D3 l e k 0 0 ⟨#[]⟩ ⟨#[]⟩ h 1 1 rfl T3 D4 g3 (hml _ B3) (by omega) Q3.out (drop_step R3.out R4.out rfl) (by rw [G3.out]))
 have N4:=Lib.hid (fun W h=>@numberC w W w.heap.size D4 l e k 0 0 ⟨#[]⟩ ⟨#[]⟩ h 1 1 rfl T4 D5 g4 (hml _ B4) (by omega) Q4.out (drop_step R4.out R5.out rfl) (by rw [G4.out]))
 have N5:=Lib.hid (fun W h=>@numberC w W w.heap.size D5 l e k 0 0 ⟨#[]⟩ ⟨#[]⟩ h 8 8 rfl T5 D6 v (hml _ B5) (by omega) Q5.out (drop_step R5.out R6.out rfl) (by rw [G5.out]; exact ev))
 have N6:=Lib.hid (fun W h=>@numberC w W w.heap.size D6 l e k v 0 ⟨#[]⟩ ⟨#[]⟩ h 8 8 rfl T6 D7 d (hml _ B6) (by omega) Q6.out (drop_step R6.out R7.out rfl) (by rw [G6.out]; exact ed))
 have N7:=Lib.hid (fun W h=>@textC w W w.heap.size D7 l e k v d ⟨#[]⟩ ⟨#[]⟩ h g3 g3 rfl i D8 (hml _ B7) b3' hid (drop_step R7.out R8.out rfl))
 have N8:=Lib.hid (fun W h=>@textC w W w.heap.size D8 l e k v d i ⟨#[]⟩ h g4 g4 rfl a D9 (hml _ B8) b4' hva (drop_step R8.out R9.out rfl))
 have h0:=cutW0 s w
 clear hid hva el ee ek ev ed hR hml X0 X1 X2 X3 X4 X5 X6
 go_enter Tryz.func158,Tryz.ntmps158
 go_wp2_with fail
 refine (N0.out _ h0).mono ?_
 rintro e' w1 ⟨rfl,h1⟩
 have m:=h1.m.c0
 have f:=h1.mF 0 (by omega)
 go_wp2_with fail
 refine (N1.out _ (h1.set0 l)).mono ?_
 rintro e' w2 ⟨rfl,h2⟩
 clear m f
 have m:=h2.m.c1
 have f:=h2.mF 1 (by omega)
 go_wp2_with fail
 refine (N2.out _ (h2.set1 e)).mono ?_
 rintro e' w3 ⟨rfl,h3⟩
 clear m f
 have m:=h3.m.c2
 have f:=h3.mF 2 (by omega)
 go_wp2_with fail
 refine (N3.out _ (h3.set2 k)).mono ?_
 rintro e' w4 ⟨rfl,h4⟩
 clear m f
 go_wp2_with fail
 refine (N4.out _ h4).mono ?_
 rintro e' w5 ⟨rfl,h5⟩
 go_wp2_with fail
 refine (N5.out _ h5).mono ?_
 rintro e' w6 ⟨rfl,h6⟩
 have m:=h6.m.c3
 have f:=h6.mF 3 (by omega)
 go_wp2_with fail
 refine (N6.out _ (h6.set3 v)).mono ?_
 rintro e' w7 ⟨rfl,h7⟩
 clear m f
 have m:=h7.m.c4
 have f:=h7.mF 4 (by omega)
 have h8:=h7.set4 d
 have fn:=h8.fn
 go_wp2_with fail
 refine (N7.out _ h8).mono ?_
 rintro e' w8 ⟨rfl,h9⟩
 clear m f fn
 go_wp2_with fail
 refine (clone_any i _ zi).mono ?_
 rintro e' w9 ⟨rfl,hb⟩
 have h10:=h9.later hb
 have m:=h10.m.c5
 have f:=h10.mF 5 (by omega)
 have h11:=h10.set5 i
 have fn:=h11.fn
 go_wp2_with fail
 refine (N8.out _ h11).mono ?_
 rintro e' w10 ⟨rfl,h12⟩
 clear m f fn hb
 go_wp2_with fail
 refine (clone_any a _ za).mono ?_
 rintro e' w11 ⟨rfl,hb⟩
 have h13:=h12.later hb
 have m:=h13.m.c6
 have f:=h13.mF 6 (by omega)
 have h14:=h13.set6 a
 obtain ⟨g,c0,c1,c2,c3,c4,c5,c6⟩:=h14.m
 obtain ⟨g',o0,o1,o2,o3,o4,o5,o6⟩:=h14.o
 have z0:=h14.oF 0 (by omega)
 have z1:=h14.oF 1 (by omega)
 have z2:=h14.oF 2 (by omega)
 have z3:=h14.oF 3 (by omega)
 have z4:=h14.oF 4 (by omega)
 have z5:=h14.oF 5 (by omega)
 have z6:=h14.oF 6 (by omega)
 have HH:=Lib.hid h14
 clear hb h14 h13 h12 h11 h10 h9 h8 h7 h6 h5 h4 h3 h2 h1 h0
 clear N0 N1 N2 N3 N4 N5 N6 N7 N8 hst
 go_wp2_with fail
 have L:=put7 l e k v d i a (there_of HH.out.o HH.out.oF) HH.out.o.lt
 have HB:=below7 l e k v d i a HH.out.b (Nat.le_refl _)
 exact bodyPost_ret (res_rec1 rfl _ _ w.heap.size rfl L) rfl ⟨rfl,HB⟩
open Go.RowKit Go.Lib Wd Cr Ck
set_option linter.unusedVariables false
structure ZR (W:World) (B:Nat):Prop where
 L:LiesR W B 0 0 0 0 0 ⟨#[]⟩ ⟨#[]⟩
 F:∀ j,j<7→W.frozen? ⟨B,j,none⟩=false
theorem ZR.later {W w:World} {B:Nat} (h:ZR W B) (hb:Below W.heap.size W w):ZR w B :=
 ⟨h.L.later hb,fun j hj=>((bcell hb).2 _ _ h.L.lt).trans (h.F j hj)⟩
theorem layZ (t:TypeId) (w:World):ZR (w.alloc (.cells #[.int .u64 0,.int .u32 0,.int .i64 0,.int .u64 0,.int .u64 0,.string ⟨#[]⟩,.string ⟨#[]⟩] t)) w.heap.size :=
 ⟨layR 0 0 0 0 0 ⟨#[]⟩ ⟨#[]⟩ t w,fun j hj=>by simp [go_sem]⟩
theorem below1 (w:World) (o:Obj):Below w.heap.size w (w.alloc o):=(Below.refl _ _).alloc (Nat.le_refl _) _
theorem eq_self (s:ByteArray):(s.toList == s.toList)=true:=by rw [beq_iff_eq]
theorem ne_str {s t:ByteArray} (h:s.data.toList≠t.data.toList):(s.toList == t.toList)=false:=by
 rw [beq_eq_false_iff_ne,toList_data,toList_data]; exact h
set_option maxHeartbeats 4000000 in
set_option maxRecDepth 100000 in
theorem decode_yes (s:ByteArray) (l e k v d:Int) (i a:ByteArray) (w:World) (hs:s.size≤140737488355328) (hR:cutR s.data.toList=⟨l,e,k,v,d,i.data.toList,a.data.toList⟩) (h:isSec s.data.toList=true) :
 Calls Tryz.prog 113 #[.string s] w fun e' w'=>e' = .returned (.tuple #[.agg #[.int .u64 l,.int .u32 e,.int .i64 k,.int .u64 v,.int .u64 d,.string i,.string a],.int .i64 0])∧Below w.heap.size w w':=by
 obtain ⟨h1,h2⟩:=(isSec_iff _).1 h
 have hf:=cutR_fits s.data.toList
 rw [hR] at h1 h2 hf
 have C:=Lib.hid (fun w=>cut_any s l e k v d i a w hs hR)
 have D:=Lib.hid (fun w=>encode_yes l e k v d i a s w hf h1 h2)
 have hq:=eq_self s
 have Z0:=layZ 97 w
 have B0:=below1 w (.cells #[.int .u64 0,.int .u32 0,.int .i64 0,.int .u64 0,.int .u64 0,.string ⟨#[]⟩,.string ⟨#[]⟩] 97)
 clear h1 h2 hf hR h
 go_enter Tryz.func113,Tryz.ntmps113
 go_wp2_with fail
 refine (C.out _).mono ?_
 rintro e' w1 ⟨rfl,hb1⟩
 have Z1:=Z0.later hb1
 have B1:=Wd.Ge.trans B0 hb1
 clear Z0 B0 hb1
 have L0:=layR l e k v d i a 97 w1
 have Z2:=Z1.later (below1 w1 (.cells #[.int .u64 l,.int .u32 e,.int .i64 k,.int .u64 v,.int .u64 d,.string i,.string a] 97))
 have B2:=Wd.Ge.trans B1 (below1 w1 (.cells #[.int .u64 l,.int .u32 e,.int .i64 k,.int .u64 v,.int .u64 d,.string i,.string a] 97))
 go_wp2_with fail
 refine (D.out _).mono ?_
 rintro e' w2 ⟨rfl,hb2⟩
 have Z3:=Z2.later hb2
 have B3:=Wd.Ge.trans B2 hb2
 obtain ⟨g,c0,c1,c2,c3,c4,c5,c6⟩:=L0.later hb2
 clear Z1 Z2 B1 B2 hb2 L0 C D
 obtain ⟨g',o0,o1,o2,o3,o4,o5,o6⟩:=Z3.L
 have z0:=Z3.F 0 (by omega)
 have z1:=Z3.F 1 (by omega)
 have z2:=Z3.F 2 (by omega)
 have z3:=Z3.F 3 (by omega)
 have z4:=Z3.F 4 (by omega)
 have z5:=Z3.F 5 (by omega)
 have z6:=Z3.F 6 (by omega)
 have ZZ:=Lib.hid Z3
 have BB:=Lib.hid B3
 clear Z3 B3
 go_wp2_with fail
 have L:=put7 l e k v d i a (there_of ZZ.out.L ZZ.out.F) ZZ.out.L.lt
 have HB:=below7 l e k v d i a BB.out (Nat.le_refl _)
 exact bodyPost_ret (res_rec2 rfl _ _ w.heap.size rfl L) rfl ⟨rfl,HB⟩
set_option maxHeartbeats 4000000 in
set_option maxRecDepth 100000 in
theorem decode_no (s:ByteArray) (w:World) (hs:s.size≤140737488355328) (h:isSec s.data.toList=false) :
 Calls Tryz.prog 113 #[.string s] w fun e' w'=>e' = .returned (.tuple #[.agg #[.int .u64 0,.int .u32 0,.int .i64 0,.int .u64 0,.int .u64 0,.string ⟨#[]⟩,.string ⟨#[]⟩],.int .i64 5])∧Below w.heap.size w w':=by
 obtain ⟨l,e,k,v,d,i,a,hR⟩:∃ l e k v d,∃ i a:ByteArray,cutR s.data.toList=⟨l,e,k,v,d,i.data.toList,a.data.toList⟩:=⟨_,_,_,_,_,⟨(cutR s.data.toList).i.toArray⟩,⟨(cutR s.data.toList).a.toArray⟩,rfl⟩
 have hf:=cutR_fits s.data.toList
 have hzi:i.size≤maxLen:=by
  have h1:=congrArg (fun r=>r.i.length) hR
  simp only [cutR,List.length_take,List.length_drop] at h1
  rw [← Go.Lib.size_eq,← Go.Lib.size_eq] at h1
  unfold maxLen; omega
 have hza:a.size≤maxLen:=by
  have h1:=congrArg (fun r=>r.a.length) hR
  simp only [cutR,List.length_take,List.length_drop] at h1
  rw [← Go.Lib.size_eq,← Go.Lib.size_eq] at h1
  unfold maxLen; omega
 rw [hR] at hf
 have C:=Lib.hid (fun w=>cut_any s l e k v d i a w hs hR)
 have Z0:=layZ 97 w
 have B0:=below1 w (.cells #[.int .u64 0,.int .u32 0,.int .i64 0,.int .u64 0,.int .u64 0,.string ⟨#[]⟩,.string ⟨#[]⟩] 97)
 have key:(∃ S:ByteArray,∃ x:Int,(∀ w,Calls Tryz.prog 159 #[.agg #[.int .u64 l,.int .u32 e,.int .i64 k,.int .u64 v,.int .u64 d,.string i,.string a]] w fun e' w'=>e' = .returned (.tuple #[.string S,.int .i64 x])∧Below w.heap.size w w')∧(x=5∨x=0∧(S.toList == s.toList)=false)):=by
  cases ho:okR ⟨l,e,k,v,d,i.data.toList,a.data.toList⟩
  ·exact ⟨⟨#[]⟩,5,fun w=>encode_no l e k v d i a w hzi hza ho,.inl rfl⟩
  ·refine ⟨⟨(secL ⟨l,e,k,v,d,i.data.toList,a.data.toList⟩).toArray⟩,0,fun w=>encode_yes l e k v d i a _ w hf ho (by simp),.inr ⟨rfl,ne_str ?_⟩⟩
   intro hq
   have:isSec s.data.toList=true:=by
    rw [isSec_iff,hR]; exact ⟨ho,by simpa using hq⟩
   rw [h] at this; exact absurd this (by decide)
 obtain ⟨S,x,D0,hx⟩:=key
 have D:=Lib.hid D0
 clear D0 h hR hf hzi hza
 rcases hx with rfl | ⟨rfl,hq⟩
 all_goals
  go_enter Tryz.func113,Tryz.ntmps113
  go_wp2_with fail
  refine (C.out _).mono ?_
  rintro e' w1 ⟨rfl,hb1⟩
  have Z1:=Z0.later hb1
  have B1:=Wd.Ge.trans B0 hb1
  clear Z0 B0 hb1
  have L0:=layR l e k v d i a 97 w1
  have Z2:=Z1.later (below1 w1 (.cells #[.int .u64 l,.int .u32 e,.int .i64 k,.int .u64 v,.int .u64 d,.string i,.string a] 97))
  have B2:=Wd.Ge.trans B1 (below1 w1 (.cells #[.int .u64 l,.int .u32 e,.int .i64 k,.int .u64 v,.int .u64 d,.string i,.string a] 97))
  go_wp2_with fail
  refine (D.out _).mono ?_
  rintro e' w2 ⟨rfl,hb2⟩
  have Z3:=Z2.later hb2
  have B3:=Wd.Ge.trans B2 hb2
  clear Z1 Z2 B1 B2 hb2 L0 C D
  obtain ⟨g',o0,o1,o2,o3,o4,o5,o6⟩:=Z3.L
  have z0:=Z3.F 0 (by omega)
  have z1:=Z3.F 1 (by omega)
  have z2:=Z3.F 2 (by omega)
  have z3:=Z3.F 3 (by omega)
  have z4:=Z3.F 4 (by omega)
  have z5:=Z3.F 5 (by omega)
  have z6:=Z3.F 6 (by omega)
  have ZZ:=Lib.hid Z3
  have BB:=Lib.hid B3
  clear Z3 B3
  go_wp2_with fail
  have L:=put7 0 0 0 0 0 ⟨#[]⟩ ⟨#[]⟩ (there_of ZZ.out.L ZZ.out.F) ZZ.out.L.lt
  have HB:=below7 0 0 0 0 0 ⟨#[]⟩ ⟨#[]⟩ BB.out (Nat.le_refl _)
  exact bodyPost_ret (res_rec2 rfl _ _ w.heap.size rfl L) rfl ⟨rfl,HB⟩
end Go.Proofs.YtcnohlgigmmefaaGreat.Rc
