/- A part. -/
import Derived.Test.YtdpmjlbkojhooaaGreatQLwR
import Derived.Deep.DeepCutAuto
namespace Go.Proofs.YtdpmjlbkojhooaaGreat.Rc
open Go.RowKit Go.Lib
set_option linter.unusedVariables false
set_option maxRecDepth 100000
open Go.RowKit Go.Lib Wd Cr Ck
set_option linter.unusedVariables false
open Go.RowKit Go.Lib Wd Cr Ck
set_option linter.unusedVariables false
def cut80 (s:ByteArray):ByteArray:=s.extract 0 (min (s.size:Int) 80).toNat
theorem cut80_size (s:ByteArray):(cut80 s).size≤80:=by
 rw [Go.Lib.size_eq,cut80,ext_take,List.length_take]; omega
set_option maxHeartbeats 4000000 in
set_option maxRecDepth 100000 in
theorem lawcut_any (l e k v d:Int) (i a:ByteArray) (w:World) (hi:i.size≤maxLen) (ha:a.size≤maxLen) :
 Calls Tryz.prog 22 #[.agg #[.int .u64 l,.int .u32 e,.int .i64 k,.int .u64 v,.int .u64 d,.string i,.string a]] w fun e' w'=>e' = .returned (.agg #[.int .u64 l,.int .u32 e,.int .i64 k,.int .u64 v,.int .u64 d,.string (cut80 i),.string (cut80 a)])∧Below w.heap.size w w':=by
 unfold maxLen at hi ha
 have E1:=Lib.hid (show i.extract 0 (min (i.size:Int) 80).toNat=cut80 i from rfl)
 have E2:=Lib.hid (show a.extract 0 (min (a.size:Int) 80).toNat=cut80 a from rfl)
 generalize cut80 i=i2 at *
 generalize cut80 a=a2 at *
 go_enter Tryz.func22,Tryz.ntmps22
 go_wp2_with fail
 rw [E1.out,E2.out]
 have L:=layR l e k v d i2 a2 46 (w.alloc (.cells #[.int .u64 l,.int .u32 e,.int .i64 k,.int .u64 v,.int .u64 d,.string i2,.string a2] 46))
 rw [show (w.alloc (.cells #[.int .u64 l,.int .u32 e,.int .i64 k,.int .u64 v,.int .u64 d,.string i2,.string a2] 46)).heap.size=w.heap.size+1 by simp] at L
 exact bodyPost_ret (res_rec1 rfl _ _ (w.heap.size+1) rfl L) rfl ⟨rfl,((Below.refl _ _).alloc (Nat.le_refl _) _).alloc (by simp) _⟩
open Go.RowKit Go.Lib Wd Cr Ck
set_option linter.unusedVariables false
structure FR (W:World) (B:Nat) (l e k v d:Int) (i a:ByteArray):Prop where
 L:LiesR W B l e k v d i a
 F:∀ j,j<7→W.frozen? ⟨B,j,none⟩=false
theorem FR.later {W w:World} {B:Nat} {l e k v d:Int} {i a:ByteArray} (h:FR W B l e k v d i a) (hb:Below W.heap.size W w):FR w B l e k v d i a :=
 ⟨h.L.later hb,fun j hj=>((bcell hb).2 _ _ h.L.lt).trans (h.F j hj)⟩
theorem layF (l e k v d:Int) (i a:ByteArray) (t:TypeId) (w:World):FR (w.alloc (.cells #[.int .u64 l,.int .u32 e,.int .i64 k,.int .u64 v,.int .u64 d,.string i,.string a] t)) w.heap.size l e k v d i a :=
 ⟨layR l e k v d i a t w,fun j hj=>by simp [go_sem]⟩
theorem frz7 {W:World} {B:Nat} (l e k v d:Int) (i a:ByteArray) {j:Nat} {b:Nat}:((((((((W.setCell ⟨B,0,none⟩ (.int .u64 l)).setCell ⟨B,1,none⟩ (.int .u32 e)).setCell ⟨B,2,none⟩ (.int .i64 k)).setCell ⟨B,3,none⟩ (.int .u64 v)).setCell ⟨B,4,none⟩ (.int .u64 d)).setCell ⟨B,5,none⟩ (.string i)).setCell ⟨B,6,none⟩ (.string a))).frozen? ⟨b,j,none⟩=W.frozen? ⟨b,j,none⟩:=by
 simp only [World.frozen?_setCell]
theorem size7 {W:World} {B:Nat} (l e k v d:Int) (i a:ByteArray):((((((((W.setCell ⟨B,0,none⟩ (.int .u64 l)).setCell ⟨B,1,none⟩ (.int .u32 e)).setCell ⟨B,2,none⟩ (.int .i64 k)).setCell ⟨B,3,none⟩ (.int .u64 v)).setCell ⟨B,4,none⟩ (.int .u64 d)).setCell ⟨B,5,none⟩ (.string i)).setCell ⟨B,6,none⟩ (.string a))).heap.size=W.heap.size:=by simp only [size_setCell]
theorem FR.put {W:World} {B:Nat} {l e k v d l' e' k' v' d' : Int} {i a i' a' : ByteArray} (h:FR W B l' e' k' v' d' i' a'):FR ((((((((W.setCell ⟨B,0,none⟩ (.int .u64 l)).setCell ⟨B,1,none⟩ (.int .u32 e)).setCell ⟨B,2,none⟩ (.int .i64 k)).setCell ⟨B,3,none⟩ (.int .u64 v)).setCell ⟨B,4,none⟩ (.int .u64 d)).setCell ⟨B,5,none⟩ (.string i)).setCell ⟨B,6,none⟩ (.string a))) B l e k v d i a :=
 ⟨put7 l e k v d i a (there_of h.L h.F) h.L.lt,fun j hj=>by rw [frz7]; exact h.F j hj⟩
theorem FR.away {W:World} {B b:Nat} {l e k v d l' e' k' v' d' : Int} {i a i' a' : ByteArray} (h:FR W b l' e' k' v' d' i' a') (hb:B≠b):FR ((((((((W.setCell ⟨B,0,none⟩ (.int .u64 l)).setCell ⟨B,1,none⟩ (.int .u32 e)).setCell ⟨B,2,none⟩ (.int .i64 k)).setCell ⟨B,3,none⟩ (.int .u64 v)).setCell ⟨B,4,none⟩ (.int .u64 d)).setCell ⟨B,5,none⟩ (.string i)).setCell ⟨B,6,none⟩ (.string a))) b l' e' k' v' d' i' a' :=
 ⟨liesR_set (liesR_set (liesR_set (liesR_set (liesR_set (liesR_set (liesR_set h.L _ _ _ hb) _ _ _ hb) _ _ _ hb) _ _ _ hb) _ _ _ hb) _ _ _ hb) _ _ _ hb,fun j hj=>by rw [frz7]; exact h.F j hj⟩
open Go.RowKit Go.Lib Wd Cr Ck
set_option linter.unusedVariables false
theorem ext_mid (S:ByteArray) (a b:Nat):(S.extract a b).data.toList=(S.data.toList.drop a).take (b-a):=by
 simp only [ByteArray.data_extract,Array.toList_extract,List.extract_eq_take_drop]
theorem getN_one (l:List UInt8) (j:Nat) (h:j<l.length):getN ((l.drop j).take 1)=byteAt l j:=by
 have e:(l.drop j).take 1=[l[j]]:=by
  rw [List.drop_eq_getElem_cons h]; rfl
 rw [e]
 simp [getN,leN,byteAt,List.getElem?_eq_getElem h]
section
variable {l e k v d:Int} {i a S:ByteArray}
end
open Go.RowKit Go.Lib Wd Cr Ck
set_option linter.unusedVariables false
theorem nilB_yes {s:ByteArray} (h:s.data.toList=[]):(s.toList == [])=true:=by rw [beq_iff_eq,toList_data]; exact h
theorem nilB_no {s:ByteArray} (h:¬ s.data.toList=[]):(s.toList == [])=false:=by rw [beq_eq_false_iff_ne,toList_data]; exact h
namespace R6
theorem right_zero (l e k v d:Int) (i a:ByteArray) (w:World) (hl:l=0) :
 Calls Tryz.prog 27 #[.agg #[.int .u64 l,.int .u32 e,.int .i64 k,.int .u64 v,.int .u64 d,.string i,.string a]] w fun e' w'=>e' = .returned (.bool false)∧Below w.heap.size w w':=by
 subst hl
 go_enter Tryz.func27,Tryz.ntmps27
 go_wp2_with fail
 go_ret
 exact ⟨rfl,(Below.refl _ _).alloc (Nat.le_refl _) _⟩
theorem right_live (l e k v d:Int) (i a:ByteArray) (w:World) (hl:(l == 0)=false) (hs:i.size≤maxLen) (ha:a.size≤maxLen) (hk:k=1) :
 Calls Tryz.prog 27 #[.agg #[.int .u64 l,.int .u32 e,.int .i64 k,.int .u64 v,.int .u64 d,.string i,.string a]] w fun e' w'=>e' = .returned (.bool (idB i.data.toList && vaB a.size))∧Below w.heap.size w w':=by
 subst hk
 have C:=Lib.hid (fun w=>R4.id_any i w hs)
 have D:=Lib.hid (fun w=>R4.value_any a w ha)
 cases hi:idB i.data.toList
 ·rw [hi] at C
  go_enter Tryz.func27,Tryz.ntmps27
  go_wp2_with fail
  refine (C.out _).mono ?_
  rintro e' w' ⟨rfl,rfl⟩
  go_wp2_with fail
  go_ret
  exact ⟨rfl,(Below.refl _ _).alloc (Nat.le_refl _) _⟩
 ·rw [hi] at C
  generalize vaB a.size=B at *
  go_enter Tryz.func27,Tryz.ntmps27
  go_wp2_with fail
  refine (C.out _).mono ?_
  rintro e' w' ⟨rfl,rfl⟩
  go_wp2_with fail
  refine (D.out _).mono ?_
  rintro e' w' ⟨rfl,rfl⟩
  go_wp2_with fail
  go_ret
  exact ⟨ret_bool (by simp),(Below.refl _ _).alloc (Nat.le_refl _) _⟩
set_option maxHeartbeats 1000000 in
theorem right_tomb (l e k v d:Int) (i a:ByteArray) (w:World) (hl:(l == 0)=false) (hs:i.size≤maxLen) (hk:k=2) :
 Calls Tryz.prog 27 #[.agg #[.int .u64 l,.int .u32 e,.int .i64 k,.int .u64 v,.int .u64 d,.string i,.string a]] w fun e' w'=>e' = .returned (.bool (idB i.data.toList && decide (a.data.toList=[]∧d=0)))∧Below w.heap.size w w':=by
 subst hk
 have C:=Lib.hid (fun w=>R4.id_any i w hs)
 obtain ⟨B,HB⟩:∃ B,Hid ((idB i.data.toList && decide (a.data.toList=[]∧d=0))=B):=⟨_,rfl⟩
 rw [HB.out]
 cases hi:idB i.data.toList
 ·rw [hi] at C
  obtain rfl:false=B:=by rw [← HB.out,hi]; rfl
  go_enter Tryz.func27,Tryz.ntmps27
  go_wp2_with fail
  refine (C.out _).mono ?_
  rintro e' w' ⟨rfl,rfl⟩
  go_wp2_with fail
  go_ret
  exact ⟨rfl,(Below.refl _ _).alloc (Nat.le_refl _) _⟩
 ·rw [hi] at C
  by_cases ha:a.data.toList=[]
  ·have ha':=nilB_yes ha
   obtain ⟨D,hD⟩:∃ D,(d == 0)=D:=⟨_,rfl⟩
   obtain rfl:D=B:=by
    rw [← HB.out,hi,Bool.true_and,← hD,Bool.eq_iff_iff,beq_iff_eq,decide_eq_true_iff]
    exact ⟨fun h=>⟨ha,h⟩,fun h=>h.2⟩
   clear HB hi ha
   go_enter Tryz.func27,Tryz.ntmps27
   go_wp2_with fail
   refine (C.out _).mono ?_
   rintro e' w' ⟨rfl,rfl⟩
   go_wp2_with fail
   go_ret
   exact ⟨rfl,(Below.refl _ _).alloc (Nat.le_refl _) _⟩
  ·have ha':=nilB_no ha
   obtain rfl:false=B:=by
    rw [← HB.out,hi,Bool.true_and,decide_eq_false (fun h=>ha h.1)]
   clear HB hi ha
   go_enter Tryz.func27,Tryz.ntmps27
   go_wp2_with fail
   refine (C.out _).mono ?_
   rintro e' w' ⟨rfl,rfl⟩
   go_wp2_with fail
   go_ret
   exact ⟨rfl,(Below.refl _ _).alloc (Nat.le_refl _) _⟩
set_option maxHeartbeats 1000000 in
theorem right_foot (l e k v d:Int) (i a:ByteArray) (w:World) (hl:(l == 0)=false) (hk:k=3) :
 Calls Tryz.prog 27 #[.agg #[.int .u64 l,.int .u32 e,.int .i64 k,.int .u64 v,.int .u64 d,.string i,.string a]] w fun e' w'=>e' = .returned (.bool (decide (d<16) && decide (v=0∧i.data.toList=[]∧a.data.toList=[])))∧Below w.heap.size w w':=by
 subst hk
 obtain ⟨B,HB⟩:∃ B,Hid ((decide (d<16) && decide (v=0∧i.data.toList=[]∧a.data.toList=[]))=B):=⟨_,rfl⟩
 rw [HB.out]
 by_cases hi:i.data.toList=[]
 ·have hi':=nilB_yes hi
  by_cases ha:a.data.toList=[]
  ·have ha':=nilB_yes ha
   by_cases hv:v=0
   ·have hv' : (v == 0)=true:=by rw [beq_iff_eq]; exact hv
    by_cases hd:d<16
    ·obtain rfl:true=B:=by rw [← HB.out,decide_eq_true hd,Bool.true_and,decide_eq_true ⟨hv,hi,ha⟩]
     clear HB hi ha
     go_enter Tryz.func27,Tryz.ntmps27
     go_wp2_with fail
     go_ret
     exact ⟨rfl,(Below.refl _ _).alloc (Nat.le_refl _) _⟩
    ·obtain rfl:false=B:=by rw [← HB.out,decide_eq_false hd,Bool.false_and]
     clear HB hi ha
     go_enter Tryz.func27,Tryz.ntmps27
     go_wp2_with fail
     go_ret
     exact ⟨rfl,(Below.refl _ _).alloc (Nat.le_refl _) _⟩
   ·have hv' : (v == 0)=false:=by rw [beq_eq_false_iff_ne]; exact hv
    obtain rfl:false=B:=by (have hq:¬ (v=0∧i.data.toList=[]∧a.data.toList=[]):=fun h=>hv h.1); (rw [← HB.out,decide_eq_false hq,Bool.and_false])
    clear HB hi ha hv
    go_enter Tryz.func27,Tryz.ntmps27
    go_wp2_with fail
    go_ret
    exact ⟨rfl,(Below.refl _ _).alloc (Nat.le_refl _) _⟩
  ·have ha':=nilB_no ha
   obtain rfl:false=B:=by (have hq:¬ (v=0∧i.data.toList=[]∧a.data.toList=[]):=fun h=>ha h.2.2); (rw [← HB.out,decide_eq_false hq,Bool.and_false])
   clear HB hi ha
   go_enter Tryz.func27,Tryz.ntmps27
   go_wp2_with fail
   go_ret
   exact ⟨rfl,(Below.refl _ _).alloc (Nat.le_refl _) _⟩
 ·have hi':=nilB_no hi
  obtain rfl:false=B:=by (have hq:¬ (v=0∧i.data.toList=[]∧a.data.toList=[]):=fun h=>hi h.2.1); (rw [← HB.out,decide_eq_false hq,Bool.and_false])
  clear HB hi
  go_enter Tryz.func27,Tryz.ntmps27
  go_wp2_with fail
  go_ret
  exact ⟨rfl,(Below.refl _ _).alloc (Nat.le_refl _) _⟩
theorem right_none (l e k v d:Int) (i a:ByteArray) (w:World) (hl:(l == 0)=false) (h1:(k == 1)=false) (h2:(k == 2)=false) (h3:(k == 3)=false) :
 Calls Tryz.prog 27 #[.agg #[.int .u64 l,.int .u32 e,.int .i64 k,.int .u64 v,.int .u64 d,.string i,.string a]] w fun e' w'=>e' = .returned (.bool false)∧Below w.heap.size w w':=by
 go_enter Tryz.func27,Tryz.ntmps27
 go_wp2_with fail
 go_ret
 exact ⟨rfl,(Below.refl _ _).alloc (Nat.le_refl _) _⟩
theorem right_any (l e k v d:Int) (i a:ByteArray) (B:Bool) (w:World) (hs:i.size≤maxLen) (ha:a.size≤maxLen) (hB:okR ⟨l,e,k,v,d,i.data.toList,a.data.toList⟩=B) :
 Calls Tryz.prog 27 #[.agg #[.int .u64 l,.int .u32 e,.int .i64 k,.int .u64 v,.int .u64 d,.string i,.string a]] w fun e' w'=>e' = .returned (.bool B)∧Below w.heap.size w w':=by
 subst hB
 have hsz:=Go.Lib.size_eq a
 by_cases hl:l=0
 ·have e0:okR ⟨l,e,k,v,d,i.data.toList,a.data.toList⟩=false:=by
   rw [Bool.eq_false_iff]; intro h; exact ((okR_iff _).1 h).1 hl
  rw [e0]; exact right_zero l e k v d i a w hl
 have hl' : (l == 0)=false:=by rw [beq_eq_false_iff_ne]; exact hl
 by_cases h1:k=1
 ·have e0:okR ⟨l,e,k,v,d,i.data.toList,a.data.toList⟩=(idB i.data.toList && vaB a.size):=by
   rw [Bool.eq_iff_iff,okR_iff,Bool.and_eq_true,vaB,decide_eq_true_iff,hsz]
   constructor
   ·rintro ⟨_,h|h|h⟩
    ·exact h.2
    ·have:=h.1; simp only at this; omega
    ·have:=h.1; simp only at this; omega
   ·intro h; exact ⟨hl,Or.inl ⟨h1,h⟩⟩
  rw [e0]; exact right_live l e k v d i a w hl' hs ha h1
 by_cases h2:k=2
 ·have e0:okR ⟨l,e,k,v,d,i.data.toList,a.data.toList⟩=(idB i.data.toList && decide (a.data.toList=[]∧d=0)):=by
   rw [Bool.eq_iff_iff,okR_iff,Bool.and_eq_true,decide_eq_true_iff]
   constructor
   ·rintro ⟨_,h|h|h⟩
    ·have:=h.1; simp only at this; omega
    ·exact h.2
    ·have:=h.1; simp only at this; omega
   ·intro h; exact ⟨hl,Or.inr (Or.inl ⟨h2,h⟩)⟩
  rw [e0]; exact right_tomb l e k v d i a w hl' hs h2
 by_cases h3:k=3
 ·have e0:okR ⟨l,e,k,v,d,i.data.toList,a.data.toList⟩=(decide (d<16) && decide (v=0∧i.data.toList=[]∧a.data.toList=[])):=by
   rw [Bool.eq_iff_iff,okR_iff,Bool.and_eq_true,decide_eq_true_iff,decide_eq_true_iff]
   constructor
   ·rintro ⟨_,h|h|h⟩
    ·have:=h.1; simp only at this; omega
    ·have:=h.1; simp only at this; omega
    ·exact ⟨h.2.2.2.2,h.2.2.2.1,h.2.1,h.2.2.1⟩
   ·intro h; exact ⟨hl,Or.inr (Or.inr ⟨h3,h.2.2.1,h.2.2.2,h.2.1,h.1⟩)⟩
  rw [e0]; exact right_foot l e k v d i a w hl' h3
 ·have e0:okR ⟨l,e,k,v,d,i.data.toList,a.data.toList⟩=false:=by
   rw [Bool.eq_false_iff]; intro h
   rcases ((okR_iff _).1 h).2 with h|h|h
   ·exact h1 h.1
   ·exact h2 h.1
   ·exact h3 h.1
  rw [e0]
  exact right_none l e k v d i a w hl' (by rw [beq_eq_false_iff_ne]; exact h1) (by rw [beq_eq_false_iff_ne]; exact h2) (by rw [beq_eq_false_iff_ne]; exact h3)
theorem info_rec:(Tryz.prog.info? 70).map (·.size)=some 7:=by kernel_rfl
theorem load_rec {W:World} {B:Nat} {l e k v d:Int} {i a:ByteArray} (h:LiesR W B l e k v d i a):(loadVar 70 ⟨B,0,none⟩).run Tryz.prog W=.ok (.agg #[.int .u64 l,.int .u32 e,.int .i64 k,.int .u64 v,.int .u64 d,.string i,.string a]) W:=by
 have hr:W.rangeAt B 0 [.int .u64 l,.int .u32 e,.int .i64 k,.int .u64 v,.int .u64 d,.string i,.string a]:=by
  intro j u hj
  match j,hj with
  | 0,hj=>cases hj; exact h.c0
  | 1,hj=>cases hj; exact h.c1
  | 2,hj=>cases hj; exact h.c2
  | 3,hj=>cases hj; exact h.c3
  | 4,hj=>cases hj; exact h.c4
  | 5,hj=>cases hj; exact h.c5
  | 6,hj=>cases hj; exact h.c6
  | j+7,hj=>simp at hj
 exact run_loadVar_mid W B 0 70 _ _ hr Tryz.underlying70 rfl info_rec
theorem res_rec1 {fn:Func} {p:Tmp} (h:fn.results=#[.cell p 70]) (tmps:Array Value) (W:World) (B:Nat) {l e k v d:Int} {i a:ByteArray} (hp:tmps.getD p undef=.pointer (some ⟨B,0,none⟩)) (L:LiesR W B l e k v d i a) :
 (results fn tmps).run Tryz.prog W=.ok (.agg #[.int .u64 l,.int .u32 e,.int .i64 k,.int .u64 v,.int .u64 d,.string i,.string a]) W:=by
 have hp' : tmps[p]?.getD undef=.pointer (some ⟨B,0,none⟩):=by simpa using hp
 simp [results,h,hp',asAddr,load_rec L]
theorem res_rec2 {fn:Func} {p u:Tmp} (h:fn.results=#[.cell p 70,.tmp u]) (tmps:Array Value) (W:World) (B:Nat) {l e k v d:Int} {i a:ByteArray} (hp:tmps.getD p undef=.pointer (some ⟨B,0,none⟩)) (L:LiesR W B l e k v d i a) :
 (results fn tmps).run Tryz.prog W=.ok (.tuple #[.agg #[.int .u64 l,.int .u32 e,.int .i64 k,.int .u64 v,.int .u64 d,.string i,.string a],tmps.getD u undef]) W:=by
 have hp' : tmps[p]?.getD undef=.pointer (some ⟨B,0,none⟩):=by simpa using hp
 rw [results_cell_tmp h]
 simp [hp',asAddr,load_rec L,Result.andThen]
end R6
theorem ref_any (l e k v d:Int) (i a:ByteArray) (w:World) :
 Calls Tryz.prog 26 #[.agg #[.int .u64 l,.int .u32 e,.int .i64 k,.int .u64 v,.int .u64 d,.string i,.string a]] w fun e' w'=>e' = .returned (.agg #[.int .u64 l,.int .u32 e,.int .i64 k,.int .u64 v,.int .u64 d,.string i,.string a])∧Below w.heap.size w w':=by
 go_enter Tryz.func26,Tryz.ntmps26
 go_wp2_with fail
 have L:=layR l e k v d i a 70 (w.alloc (.cells #[.int .u64 l,.int .u32 e,.int .i64 k,.int .u64 v,.int .u64 d,.string i,.string a] 46))
 rw [show (w.alloc (.cells #[.int .u64 l,.int .u32 e,.int .i64 k,.int .u64 v,.int .u64 d,.string i,.string a] 46)).heap.size=w.heap.size+1 by simp] at L
 exact bodyPost_ret (R6.res_rec1 rfl _ _ (w.heap.size+1) rfl L) rfl ⟨rfl,((Below.refl _ _).alloc (Nat.le_refl _) _).alloc (by simp) _⟩
open Go.RowKit Go.Lib Wd Cr Ck
set_option linter.unusedVariables false
theorem r1put (n s:Int) (r:ByteArray) (w:World) (h0:0≤n) (h1:n<18446744073709551616) (hr:(⟨(putL n.toNat (clampN s)).toArray⟩:ByteArray)=r) :
 Calls Tryz.prog 145 #[.int .u64 n,.int .i64 s] w fun e w'=>e=.returned (.string r)∧Below w.heap.size w w':=by
 subst hr; exact R1.put_any n s w h0 h1
theorem slot_is {xs:Array Value} {n:Nat} {v:Value} (h:xs.getD n undef=v):xs[n]?.getD undef=v:=by simpa using h
theorem conv3 (W:World) (b:Nat) (x y z:Int) (q0:W.cell? ⟨b,0,none⟩=some (.int .u8 x)) (q1:W.cell? ⟨b,1,none⟩=some (.int .u8 y)) (q2:W.cell? ⟨b,2,none⟩=some (.int .u8 z)) :
 (convert 97 9 (.slice (some ⟨b,0,none⟩) 3 3)).run Tryz.prog W=.ok (.string (strOfNums [x,y,z])) W:=by
 refine run_convert_bytes_arg _ 97 5 Tryz.underlying97 Tryz.underlying5 b 0 3 3 [x,y,z] rfl (fun i hi=>?_) 9 Tryz.underlying9
 match i,hi with
 | 0,_=>exact q0
 | 1,_=>exact q1
 | 2,_=>exact q2
theorem list_succ {α:Type} {l:List α} {n:Nat} (h:l.length=n+1):∃ x r,l=x :: r∧r.length=n:=by
 cases l with
 | nil=>simp at h
 | cons x r=>exact ⟨x,r,rfl,by simpa using h⟩
theorem arr64 {α:Type} {cs:Array α} (h:cs.size=64):∃ x0 x1 x2 x3 x4 x5 x6 x7 x8 x9 x10 x11 x12 x13 x14 x15 x16 x17 x18 x19 x20 x21 x22 x23 x24 x25 x26 x27 x28 x29 x30 x31 x32 x33 x34 x35 x36 x37 x38 x39 x40 x41 x42 x43 x44 x45 x46 x47 x48 x49 x50 x51 x52 x53 x54 x55 x56 x57 x58 x59 x60 x61 x62 x63,cs=#[x0,x1,x2,x3,x4,x5,x6,x7,x8,x9,x10,x11,x12,x13,x14,x15,x16,x17,x18,x19,x20,x21,x22,x23,x24,x25,x26,x27,x28,x29,x30,x31,x32,x33,x34,x35,x36,x37,x38,x39,x40,x41,x42,x43,x44,x45,x46,x47,x48,x49,x50,x51,x52,x53,x54,x55,x56,x57,x58,x59,x60,x61,x62,x63]:=by
 obtain ⟨l⟩:=cs
 have h0:l.length=64:=h
 clear h
 obtain ⟨x0,l1,q0,h1⟩:=list_succ h0
 obtain ⟨x1,l2,q1,h2⟩:=list_succ h1
 obtain ⟨x2,l3,q2,h3⟩:=list_succ h2
 obtain ⟨x3,l4,q3,h4⟩:=list_succ h3
 obtain ⟨x4,l5,q4,h5⟩:=list_succ h4
 obtain ⟨x5,l6,q5,h6⟩:=list_succ h5
 obtain ⟨x6,l7,q6,h7⟩:=list_succ h6
 obtain ⟨x7,l8,q7,h8⟩:=list_succ h7
 obtain ⟨x8,l9,q8,h9⟩:=list_succ h8
 obtain ⟨x9,l10,q9,h10⟩:=list_succ h9
 obtain ⟨x10,l11,q10,h11⟩:=list_succ h10
 obtain ⟨x11,l12,q11,h12⟩:=list_succ h11
 obtain ⟨x12,l13,q12,h13⟩:=list_succ h12
 obtain ⟨x13,l14,q13,h14⟩:=list_succ h13
 obtain ⟨x14,l15,q14,h15⟩:=list_succ h14
 obtain ⟨x15,l16,q15,h16⟩:=list_succ h15
 obtain ⟨x16,l17,q16,h17⟩:=list_succ h16
 obtain ⟨x17,l18,q17,h18⟩:=list_succ h17
 obtain ⟨x18,l19,q18,h19⟩:=list_succ h18
 obtain ⟨x19,l20,q19,h20⟩:=list_succ h19
 obtain ⟨x20,l21,q20,h21⟩:=list_succ h20
 obtain ⟨x21,l22,q21,h22⟩:=list_succ h21
 obtain ⟨x22,l23,q22,h23⟩:=list_succ h22
 obtain ⟨x23,l24,q23,h24⟩:=list_succ h23
 obtain ⟨x24,l25,q24,h25⟩:=list_succ h24
 obtain ⟨x25,l26,q25,h26⟩:=list_succ h25
 obtain ⟨x26,l27,q26,h27⟩:=list_succ h26
 obtain ⟨x27,l28,q27,h28⟩:=list_succ h27
 obtain ⟨x28,l29,q28,h29⟩:=list_succ h28
 obtain ⟨x29,l30,q29,h30⟩:=list_succ h29
 obtain ⟨x30,l31,q30,h31⟩:=list_succ h30
 obtain ⟨x31,l32,q31,h32⟩:=list_succ h31
 obtain ⟨x32,l33,q32,h33⟩:=list_succ h32
 obtain ⟨x33,l34,q33,h34⟩:=list_succ h33
 obtain ⟨x34,l35,q34,h35⟩:=list_succ h34
 obtain ⟨x35,l36,q35,h36⟩:=list_succ h35
 obtain ⟨x36,l37,q36,h37⟩:=list_succ h36
 obtain ⟨x37,l38,q37,h38⟩:=list_succ h37
 obtain ⟨x38,l39,q38,h39⟩:=list_succ h38
 obtain ⟨x39,l40,q39,h40⟩:=list_succ h39
 obtain ⟨x40,l41,q40,h41⟩:=list_succ h40
 obtain ⟨x41,l42,q41,h42⟩:=list_succ h41
 obtain ⟨x42,l43,q42,h43⟩:=list_succ h42
 obtain ⟨x43,l44,q43,h44⟩:=list_succ h43
 obtain ⟨x44,l45,q44,h45⟩:=list_succ h44
 obtain ⟨x45,l46,q45,h46⟩:=list_succ h45
 obtain ⟨x46,l47,q46,h47⟩:=list_succ h46
 obtain ⟨x47,l48,q47,h48⟩:=list_succ h47
 obtain ⟨x48,l49,q48,h49⟩:=list_succ h48
 obtain ⟨x49,l50,q49,h50⟩:=list_succ h49
 obtain ⟨x50,l51,q50,h51⟩:=list_succ h50
 obtain ⟨x51,l52,q51,h52⟩:=list_succ h51
 obtain ⟨x52,l53,q52,h53⟩:=list_succ h52
 obtain ⟨x53,l54,q53,h54⟩:=list_succ h53
 obtain ⟨x54,l55,q54,h55⟩:=list_succ h54
 obtain ⟨x55,l56,q55,h56⟩:=list_succ h55
 obtain ⟨x56,l57,q56,h57⟩:=list_succ h56
 obtain ⟨x57,l58,q57,h58⟩:=list_succ h57
 obtain ⟨x58,l59,q58,h59⟩:=list_succ h58
 obtain ⟨x59,l60,q59,h60⟩:=list_succ h59
 obtain ⟨x60,l61,q60,h61⟩:=list_succ h60
 obtain ⟨x61,l62,q61,h62⟩:=list_succ h61
 obtain ⟨x62,l63,q62,h63⟩:=list_succ h62
 obtain ⟨x63,l64,q63,h64⟩:=list_succ h63
 have q64:=List.length_eq_zero_iff.1 h64
 subst q64 q63 q62 q61 q60 q59 q58 q57 q56 q55 q54 q53 q52 q51 q50 q49 q48 q47 q46 q45 q44 q43 q42 q41 q40 q39 q38 q37 q36 q35 q34 q33 q32 q31 q30 q29 q28 q27 q26 q25 q24 q23 q22 q21 q20 q19 q18 q17 q16 q15 q14 q13 q12 q11 q10 q9 q8 q7 q6 q5 q4 q3 q2 q1 q0
 exact ⟨x0,x1,x2,x3,x4,x5,x6,x7,x8,x9,x10,x11,x12,x13,x14,x15,x16,x17,x18,x19,x20,x21,x22,x23,x24,x25,x26,x27,x28,x29,x30,x31,x32,x33,x34,x35,x36,x37,x38,x39,x40,x41,x42,x43,x44,x45,x46,x47,x48,x49,x50,x51,x52,x53,x54,x55,x56,x57,x58,x59,x60,x61,x62,x63,rfl⟩
theorem refsum_is (s:ByteArray) (M:Int) (w:World) (hs:s.size≤maxLen) (hM:((Crc.more 0 s.data.toList:Nat):Int)=M) :
 Calls Tryz.prog 146 #[.string s] w fun e w'=>e=.returned (.int .u32 M)∧Below w.heap.size w w':=by
 subst hM; exact (refsum_any s w hs).mono fun _ _ ⟨he,hw⟩=>⟨he,hw ▸ Below.refl _ _⟩
namespace R6
theorem encode_no (l e k v d:Int) (i a:ByteArray) (w:World) (hs:i.size≤maxLen) (ha:a.size≤maxLen) (h:okR ⟨l,e,k,v,d,i.data.toList,a.data.toList⟩=false) :
 Calls Tryz.prog 147 #[.agg #[.int .u64 l,.int .u32 e,.int .i64 k,.int .u64 v,.int .u64 d,.string i,.string a]] w fun e' w'=>e' = .returned (.tuple #[.string ⟨#[]⟩,.int .i64 5])∧Below w.heap.size w w':=by
 have C:=Lib.hid (fun w=>right_any l e k v d i a false w hs ha h)
 have B0:=Lib.hid ((Below.refl w.heap.size w).alloc (Nat.le_refl _) (.cells #[.int .u64 l,.int .u32 e,.int .i64 k,.int .u64 v,.int .u64 d,.string i,.string a] 70))
 go_enter Tryz.func147,Tryz.ntmps147
 go_wp2_with fail
 refine (C.out _).mono ?_
 rintro e' w1 ⟨rfl,hb⟩
 go_wp2_with fail
 go_ret2
 exact ⟨rfl,B0.out.trans (hb.mono B0.out.size)⟩
set_option maxHeartbeats 8000000 in
set_option maxRecDepth 100000 in
theorem encode_yes (l e k v d:Int) (i a:ByteArray) (S:ByteArray) (w:World) (hf:Fits ⟨l,e,k,v,d,i.data.toList,a.data.toList⟩) (h:okR ⟨l,e,k,v,d,i.data.toList,a.data.toList⟩=true) (hS:secL ⟨l,e,k,v,d,i.data.toList,a.data.toList⟩=S.data.toList) :
 Calls Tryz.prog 147 #[.agg #[.int .u64 l,.int .u32 e,.int .i64 k,.int .u64 v,.int .u64 d,.string i,.string a]] w fun e' w'=>e' = .returned (.tuple #[.string S,.int .i64 0])∧Below w.heap.size w w':=by
 have hk:=okR_k h
 have hi:=okR_i h
 have ha:=okR_a h
 simp only at hk hi ha
 have hik:=Go.Lib.size_eq i
 have hak:=Go.Lib.size_eq a
 have hlen:=fieldsL_len ⟨l,e,k,v,d,i.data.toList,a.data.toList⟩
 simp only at hlen
 have C:=Lib.hid (fun w=>right_any l e k v d i a true w (by unfold maxLen; omega) (by unfold maxLen; omega) h)
 obtain ⟨l0,l1,e0,e1,v0,v1,d0,d1⟩:=hf
 simp only at l0 l1 e0 e1 v0 v1 d0 d1
 have i0:=inv0 l e k v d i a 70 w
 obtain ⟨T0,H0⟩:∃ T:ByteArray,Hid ((⟨(putL l.toNat (clampN 8)).toArray⟩:ByteArray)=T):=⟨_,rfl⟩
 obtain ⟨T1,H1⟩:∃ T:ByteArray,Hid ((⟨(putL e.toNat (clampN 4)).toArray⟩:ByteArray)=T):=⟨_,rfl⟩
 obtain ⟨S3,H3⟩:∃ T:ByteArray,Hid (strOfNums [k,(i.size:Int),(a.size:Int)]=T):=⟨_,rfl⟩
 obtain ⟨T4,H4⟩:∃ T:ByteArray,Hid ((⟨(putL v.toNat (clampN 8)).toArray⟩:ByteArray)=T):=⟨_,rfl⟩
 obtain ⟨T5,H5⟩:∃ T:ByteArray,Hid ((⟨(putL d.toNat (clampN 8)).toArray⟩:ByteArray)=T):=⟨_,rfl⟩
 have z0:T0.size=8:=by rw [← H0.out]; exact put_size _ _
 have z1:T1.size=4:=by rw [← H1.out]; exact put_size _ _
 have z3:S3.size=3:=by rw [← H3.out]; rfl
 have z4:T4.size=8:=by rw [← H4.out]; exact put_size _ _
 have z5:T5.size=8:=by rw [← H5.out]; exact put_size _ _
 obtain ⟨U1,J1⟩:∃ U,T0++T1=U:=⟨_,rfl⟩
 obtain ⟨U2,J2⟩:∃ U,U1++S3=U:=⟨_,rfl⟩
 obtain ⟨U3,J3⟩:∃ U,U2++T4=U:=⟨_,rfl⟩
 obtain ⟨U4,J4⟩:∃ U,U3++T5=U:=⟨_,rfl⟩
 obtain ⟨U5,J5⟩:∃ U,U4++i=U:=⟨_,rfl⟩
 obtain ⟨U6,J6⟩:∃ U,U5++a=U:=⟨_,rfl⟩
 have y1:U1.size=12:=by rw [← J1,ByteArray.size_append]; omega
 have y2:U2.size=15:=by rw [← J2,ByteArray.size_append]; omega
 have y3:U3.size=23:=by rw [← J3,ByteArray.size_append]; omega
 have y4:U4.size=31:=by rw [← J4,ByteArray.size_append]; omega
 have y5:U5.size=31+i.size:=by rw [← J5,ByteArray.size_append]; omega
 have y6:U6.size=31+i.size+a.size:=by rw [← J6,ByteArray.size_append]; omega
 have E6:Hid (U6.data.toList=fieldsL ⟨l,e,k,v,d,i.data.toList,a.data.toList⟩):=by
  refine Lib.hid ?_
  have e3:S3.data.toList=putL k.toNat 1++putL i.size 1++putL a.size 1:=by
   rw [← H3.out]
   simp only [strOfNums,List.map_cons,List.map_nil,putL,Int.toNat_natCast,List.cons_append,List.nil_append]
   rw [Nat.mod_eq_of_lt (by omega:k.toNat<256),Nat.mod_eq_of_lt (by omega:i.size<256),Nat.mod_eq_of_lt (by omega:a.size<256)]
  rw [← J6,← J5,← J4,← J3,← J2,← J1]
  simp only [ByteArray.data_append,Array.toList_append,e3,← H0.out,← H1.out,← H4.out,← H5.out,fieldsL,stampL,← hik,← hak,List.append_assoc]
  rfl
 have q1:¬ 9223372036854775807<T0.size+T1.size:=by omega
 have q2:¬ 9223372036854775807<U1.size+S3.size:=by omega
 have q3:¬ 9223372036854775807<U2.size+T4.size:=by omega
 have q4:¬ 9223372036854775807<U3.size+T5.size:=by omega
 have q5:¬ 9223372036854775807<U4.size+i.size:=by omega
 have q6:¬ 9223372036854775807<U5.size+a.size:=by omega
 have kb0:0≤k:=by omega
 have kb1:k<256:=by omega
 have ib:(i.size:Int)<256:=by omega
 have ab:(a.size:Int)<256:=by omega
 have hv8:=Tryz.zeroValue5
 clear z0 z1 z3 z4 z5 y1 y2 y3 y4 y5 hlen hi ha hk
 go_enter Tryz.func147,Tryz.ntmps147
 go_wp2_with fail
 refine (C.out _).mono ?_
 rintro e' w1 ⟨rfl,hb1⟩
 have i1:InvR w w.heap.size l e k v d i a w1:=⟨Wd.Ge.trans i0.b hb1,i0.m.later hb1⟩
 clear i0 hb1 C
 go_wp2_with fail
 refine Free.wp_free [(fun _ u=>u=.pointer (some ⟨w.heap.size,0,none⟩)),
  (fun _ u=>u=.int .u64 l),
  (fun _ u=>u=.string T0),
  (fun _ u=>u=.pointer (some ⟨w.heap.size,1,none⟩)),
  (fun _ u=>u=.int .u32 e),
  (fun _ u=>u=.int .u64 e),
  (fun _ u=>u=.string T1),
  (fun _ u=>u=.string U1),
  (fun _ u=>u=.pointer (some ⟨w.heap.size,2,none⟩)),
  (fun _ u=>u=.int .i64 k),
  (fun _ u=>u=.int .u8 k),
  (fun _ u=>u=.pointer (some ⟨w.heap.size,5,none⟩)),
  (fun _ u=>u=.string i),
  (fun _ u=>u=.int .i64 (i.size:Int)),
  (fun _ u=>u=.int .u8 (i.size:Int)),
  (fun _ u=>u=.pointer (some ⟨w.heap.size,6,none⟩)),
  (fun _ u=>u=.string a),
  (fun _ u=>u=.int .i64 (a.size:Int)),
  (fun _ u=>u=.int .u8 (a.size:Int)),
  (fun w u=>∃ b,u=.slice (some ⟨b,0,none⟩) 3 3∧b<w.heap.size∧w.cell? ⟨b,0,none⟩=some (.int .u8 k)∧w.cell? ⟨b,1,none⟩=some (.int .u8 (i.size:Int))∧w.cell? ⟨b,2,none⟩=some (.int .u8 (a.size:Int))),
  (fun _ u=>u=.string S3),
  (fun _ u=>u=.string U2),
  (fun _ u=>u=.pointer (some ⟨w.heap.size,3,none⟩)),
  (fun _ u=>u=.int .u64 v),
  (fun _ u=>u=.string T4),
  (fun _ u=>u=.string U3),
  (fun _ u=>u=.pointer (some ⟨w.heap.size,4,none⟩)),
  (fun _ u=>u=.int .u64 d),
  (fun _ u=>u=.string T5),
  (fun _ u=>u=.string U4),
  (fun _ u=>u=.pointer (some ⟨w.heap.size,5,none⟩)),
  (fun _ u=>u=.string i),
  (fun _ u=>u=.string U5),
  (fun _ u=>u=.pointer (some ⟨w.heap.size,6,none⟩)),
  (fun _ u=>u=.string a),
  (fun _ u=>u=.string U6),
  (fun _ u=>u=.string U6)] (InvR w w.heap.size l e k v d i a) (fun W W'=>Below W.heap.size W W') (by kernel_rfl) (by kernel_rfl) i1.drawn (fun W W' h hb=>⟨Wd.Ge.trans h.b hb,h.m.later hb⟩) ?_ ?_ ?_
 ·intro p hp W W' u hb hu
  simp only [List.mem_cons,List.not_mem_nil,or_false] at hp
  rcases hp with rfl|rfl|rfl|rfl|rfl|rfl|rfl|rfl|rfl|rfl|rfl|rfl|rfl|rfl|rfl|rfl|rfl|rfl|rfl|rfl|rfl|rfl|rfl|rfl|rfl|rfl|rfl|rfl|rfl|rfl|rfl|rfl|rfl|rfl|rfl|rfl|rfl
  all_goals first
   | exact hu
   | (obtain ⟨b,e27,hb0,q0,q1,q2⟩:=hu
      exact ⟨b,e27,Nat.lt_of_lt_of_le hb0 hb.size,((bcell hb).1 _ _ hb0).trans q0,((bcell hb).1 _ _ hb0).trans q1,((bcell hb).1 _ _ hb0).trans q2⟩)
 ·refine ⟨?_,?_,?_,?_,?_,?_,?_,?_,?_,?_,?_,?_,?_,?_,?_,?_,?_,?_,?_,?_,?_,?_,?_,?_,?_,?_,?_,?_,?_,?_,?_,?_,?_,?_,?_,?_,?_,trivial⟩
  ·intro listed A W hA hr K hK
   have e1:A.tmps[1]?.getD undef=.pointer (some ⟨w.heap.size,0,none⟩):=slot_is ((hA.kept 1 (Free.not_dst (by kernel_rfl))).trans rfl)
   simp [go_sem,e1]
   exact hK _ _ (Below.refl _ _) rfl
  ·intro listed A W hA hr K hK
   have e8:A.tmps[8]?.getD undef=.pointer (some ⟨w.heap.size,0,none⟩):=slot_is (hA.val 0 _ rfl (hr ⟨0,.data⟩ (by simp) rfl))
   have c:=hA.c.m.c0
   simp [go_sem,e8,c]
   exact hK _ _ (Below.refl _ _) rfl
  ·intro listed A W hA hr K hK
   have e9:A.tmps[9]?.getD undef=.int .u64 l:=slot_is (hA.val 1 _ rfl (hr ⟨1,.data⟩ (by simp) rfl))
   simp [go_sem,e9]
   refine (r1put l 8 T0 _ l0 l1 H0.out).mono ?_
   rintro e' w' ⟨rfl,hb⟩
   exact hK _ _ hb rfl
  ·intro listed A W hA hr K hK
   have e1:A.tmps[1]?.getD undef=.pointer (some ⟨w.heap.size,0,none⟩):=slot_is ((hA.kept 1 (Free.not_dst (by kernel_rfl))).trans rfl)
   simp [go_sem,e1]
   exact hK _ _ (Below.refl _ _) rfl
  ·intro listed A W hA hr K hK
   have e11:A.tmps[11]?.getD undef=.pointer (some ⟨w.heap.size,1,none⟩):=slot_is (hA.val 3 _ rfl (hr ⟨3,.data⟩ (by simp) rfl))
   have c:=hA.c.m.c1
   simp [go_sem,e11,c]
   exact hK _ _ (Below.refl _ _) rfl
  ·intro listed A W hA hr K hK
   have e12:A.tmps[12]?.getD undef=.int .u32 e:=slot_is (hA.val 4 _ rfl (hr ⟨4,.data⟩ (by simp) rfl))
   simp [go_sem,e12]
   refine hK _ _ (Below.refl _ _) (show Value.int .u64 _=.int .u64 e from Cr.val_int ?_)
   first|omega|(rw [IntKind.wrap_u64]; omega)
  ·intro listed A W hA hr K hK
   have e13:A.tmps[13]?.getD undef=.int .u64 e:=slot_is (hA.val 5 _ rfl (hr ⟨5,.data⟩ (by simp) rfl))
   simp [go_sem,e13]
   refine (r1put e 4 T1 _ e0 (by omega) H1.out).mono ?_
   rintro e' w' ⟨rfl,hb⟩
   exact hK _ _ hb rfl
  ·intro listed A W hA hr K hK
   have e10:A.tmps[10]?.getD undef=.string T0:=slot_is (hA.val 2 _ rfl (hr ⟨2,.data⟩ (by simp) rfl))
   have e14:A.tmps[14]?.getD undef=.string T1:=slot_is (hA.val 6 _ rfl (hr ⟨6,.data⟩ (by simp) rfl))
   simp [go_sem,e10,e14,J1,q1]
   exact hK _ _ (Below.refl _ _) rfl
  ·intro listed A W hA hr K hK
   have e1:A.tmps[1]?.getD undef=.pointer (some ⟨w.heap.size,0,none⟩):=slot_is ((hA.kept 1 (Free.not_dst (by kernel_rfl))).trans rfl)
   simp [go_sem,e1]
   exact hK _ _ (Below.refl _ _) rfl
  ·intro listed A W hA hr K hK
   have e16:A.tmps[16]?.getD undef=.pointer (some ⟨w.heap.size,2,none⟩):=slot_is (hA.val 8 _ rfl (hr ⟨8,.data⟩ (by simp) rfl))
   have c:=hA.c.m.c2
   simp [go_sem,e16,c]
   exact hK _ _ (Below.refl _ _) rfl
  ·intro listed A W hA hr K hK
   have e17:A.tmps[17]?.getD undef=.int .i64 k:=slot_is (hA.val 9 _ rfl (hr ⟨9,.data⟩ (by simp) rfl))
   simp [go_sem,e17]
   refine hK _ _ (Below.refl _ _) (show Value.int .u8 _=.int .u8 k from Cr.val_int ?_)
   first|omega|(rw [IntKind.wrap_u8]; omega)
  ·intro listed A W hA hr K hK
   have e1:A.tmps[1]?.getD undef=.pointer (some ⟨w.heap.size,0,none⟩):=slot_is ((hA.kept 1 (Free.not_dst (by kernel_rfl))).trans rfl)
   simp [go_sem,e1]
   exact hK _ _ (Below.refl _ _) rfl
  ·intro listed A W hA hr K hK
   have e19:A.tmps[19]?.getD undef=.pointer (some ⟨w.heap.size,5,none⟩):=slot_is (hA.val 11 _ rfl (hr ⟨11,.data⟩ (by simp) rfl))
   have c:=hA.c.m.c5
   simp [go_sem,e19,c]
   exact hK _ _ (Below.refl _ _) rfl
  ·intro listed A W hA hr K hK
   have e20:A.tmps[20]?.getD undef=.string i:=slot_is (hA.val 12 _ rfl (hr ⟨12,.data⟩ (by simp) rfl))
   simp [go_sem,e20]
   exact hK _ _ (Below.refl _ _) rfl
  ·intro listed A W hA hr K hK
   have e21:A.tmps[21]?.getD undef=.int .i64 (i.size:Int):=slot_is (hA.val 13 _ rfl (hr ⟨13,.data⟩ (by simp) rfl))
   simp [go_sem,e21]
   refine hK _ _ (Below.refl _ _) (show Value.int .u8 _=.int .u8 (i.size:Int) from Cr.val_int ?_)
   first|omega|(rw [IntKind.wrap_u8]; omega)
  ·intro listed A W hA hr K hK
   have e1:A.tmps[1]?.getD undef=.pointer (some ⟨w.heap.size,0,none⟩):=slot_is ((hA.kept 1 (Free.not_dst (by kernel_rfl))).trans rfl)
   simp [go_sem,e1]
   exact hK _ _ (Below.refl _ _) rfl
  ·intro listed A W hA hr K hK
   have e23:A.tmps[23]?.getD undef=.pointer (some ⟨w.heap.size,6,none⟩):=slot_is (hA.val 15 _ rfl (hr ⟨15,.data⟩ (by simp) rfl))
   have c:=hA.c.m.c6
   simp [go_sem,e23,c]
   exact hK _ _ (Below.refl _ _) rfl
  ·intro listed A W hA hr K hK
   have e24:A.tmps[24]?.getD undef=.string a:=slot_is (hA.val 16 _ rfl (hr ⟨16,.data⟩ (by simp) rfl))
   simp [go_sem,e24]
   exact hK _ _ (Below.refl _ _) rfl
  ·intro listed A W hA hr K hK
   have e25:A.tmps[25]?.getD undef=.int .i64 (a.size:Int):=slot_is (hA.val 17 _ rfl (hr ⟨17,.data⟩ (by simp) rfl))
   simp [go_sem,e25]
   refine hK _ _ (Below.refl _ _) (show Value.int .u8 _=.int .u8 (a.size:Int) from Cr.val_int ?_)
   first|omega|(rw [IntKind.wrap_u8]; omega)
  ·intro listed A W hA hr K hK
   have e18:A.tmps[18]?.getD undef=.int .u8 k:=slot_is (hA.val 10 _ rfl (hr ⟨10,.data⟩ (by simp) rfl))
   have e22:A.tmps[22]?.getD undef=.int .u8 (i.size:Int):=slot_is (hA.val 14 _ rfl (hr ⟨14,.data⟩ (by simp) rfl))
   have e26:A.tmps[26]?.getD undef=.int .u8 (a.size:Int):=slot_is (hA.val 18 _ rfl (hr ⟨18,.data⟩ (by simp) rfl))
   simp [go_sem,e18,e22,e26]
   exact hK _ _ (below1 _ _) ⟨W.heap.size,rfl,by simp,by simp [go_sem],by simp [go_sem],by simp [go_sem]⟩
  ·intro listed A W hA hr K hK
   have e27:(fun w u=>∃ b,u=.slice (some ⟨b,0,none⟩) 3 3∧b<w.heap.size∧w.cell? ⟨b,0,none⟩=some (.int .u8 k)∧w.cell? ⟨b,1,none⟩=some (.int .u8 (i.size:Int))∧w.cell? ⟨b,2,none⟩=some (.int .u8 (a.size:Int))) W (A.tmps.getD 27 undef):=hA.val 19 _ rfl (hr ⟨19,.data⟩ (by simp) rfl)
   obtain ⟨b,e27,hb,q0,q1,q2⟩:=e27
   replace e27:=slot_is e27
   have hcv:=conv3 W b k (i.size:Int) (a.size:Int) q0 q1 q2
   rw [H3.out] at hcv
   simp [go_sem,e27,hcv]
   exact hK _ _ (Below.refl _ _) rfl
  ·intro listed A W hA hr K hK
   have e15:A.tmps[15]?.getD undef=.string U1:=slot_is (hA.val 7 _ rfl (hr ⟨7,.data⟩ (by simp) rfl))
   have e28:A.tmps[28]?.getD undef=.string S3:=slot_is (hA.val 20 _ rfl (hr ⟨20,.data⟩ (by simp) rfl))
   simp [go_sem,e15,e28,J2,q2]
   exact hK _ _ (Below.refl _ _) rfl
  ·intro listed A W hA hr K hK
   have e1:A.tmps[1]?.getD undef=.pointer (some ⟨w.heap.size,0,none⟩):=slot_is ((hA.kept 1 (Free.not_dst (by kernel_rfl))).trans rfl)
   simp [go_sem,e1]
   exact hK _ _ (Below.refl _ _) rfl
  ·intro listed A W hA hr K hK
   have e30:A.tmps[30]?.getD undef=.pointer (some ⟨w.heap.size,3,none⟩):=slot_is (hA.val 22 _ rfl (hr ⟨22,.data⟩ (by simp) rfl))
   have c:=hA.c.m.c3
   simp [go_sem,e30,c]
   exact hK _ _ (Below.refl _ _) rfl
  ·intro listed A W hA hr K hK
   have e31:A.tmps[31]?.getD undef=.int .u64 v:=slot_is (hA.val 23 _ rfl (hr ⟨23,.data⟩ (by simp) rfl))
   simp [go_sem,e31]
   refine (r1put v 8 T4 _ v0 v1 H4.out).mono ?_
   rintro e' w' ⟨rfl,hb⟩
   exact hK _ _ hb rfl
  ·intro listed A W hA hr K hK
   have e29:A.tmps[29]?.getD undef=.string U2:=slot_is (hA.val 21 _ rfl (hr ⟨21,.data⟩ (by simp) rfl))
   have e32:A.tmps[32]?.getD undef=.string T4:=slot_is (hA.val 24 _ rfl (hr ⟨24,.data⟩ (by simp) rfl))
   simp [go_sem,e29,e32,J3,q3]
   exact hK _ _ (Below.refl _ _) rfl
  ·intro listed A W hA hr K hK
   have e1:A.tmps[1]?.getD undef=.pointer (some ⟨w.heap.size,0,none⟩):=slot_is ((hA.kept 1 (Free.not_dst (by kernel_rfl))).trans rfl)
   simp [go_sem,e1]
   exact hK _ _ (Below.refl _ _) rfl
  ·intro listed A W hA hr K hK
   have e34:A.tmps[34]?.getD undef=.pointer (some ⟨w.heap.size,4,none⟩):=slot_is (hA.val 26 _ rfl (hr ⟨26,.data⟩ (by simp) rfl))
   have c:=hA.c.m.c4
   simp [go_sem,e34,c]
   exact hK _ _ (Below.refl _ _) rfl
  ·intro listed A W hA hr K hK
   have e35:A.tmps[35]?.getD undef=.int .u64 d:=slot_is (hA.val 27 _ rfl (hr ⟨27,.data⟩ (by simp) rfl))
   simp [go_sem,e35]
   refine (r1put d 8 T5 _ d0 d1 H5.out).mono ?_
   rintro e' w' ⟨rfl,hb⟩
   exact hK _ _ hb rfl
  ·intro listed A W hA hr K hK
   have e33:A.tmps[33]?.getD undef=.string U3:=slot_is (hA.val 25 _ rfl (hr ⟨25,.data⟩ (by simp) rfl))
   have e36:A.tmps[36]?.getD undef=.string T5:=slot_is (hA.val 28 _ rfl (hr ⟨28,.data⟩ (by simp) rfl))
   simp [go_sem,e33,e36,J4,q4]
   exact hK _ _ (Below.refl _ _) rfl
  ·intro listed A W hA hr K hK
   have e1:A.tmps[1]?.getD undef=.pointer (some ⟨w.heap.size,0,none⟩):=slot_is ((hA.kept 1 (Free.not_dst (by kernel_rfl))).trans rfl)
   simp [go_sem,e1]
   exact hK _ _ (Below.refl _ _) rfl
  ·intro listed A W hA hr K hK
   have e38:A.tmps[38]?.getD undef=.pointer (some ⟨w.heap.size,5,none⟩):=slot_is (hA.val 30 _ rfl (hr ⟨30,.data⟩ (by simp) rfl))
   have c:=hA.c.m.c5
   simp [go_sem,e38,c]
   exact hK _ _ (Below.refl _ _) rfl
  ·intro listed A W hA hr K hK
   have e37:A.tmps[37]?.getD undef=.string U4:=slot_is (hA.val 29 _ rfl (hr ⟨29,.data⟩ (by simp) rfl))
   have e39:A.tmps[39]?.getD undef=.string i:=slot_is (hA.val 31 _ rfl (hr ⟨31,.data⟩ (by simp) rfl))
   simp [go_sem,e37,e39,J5,q5]
   exact hK _ _ (Below.refl _ _) rfl
  ·intro listed A W hA hr K hK
   have e1:A.tmps[1]?.getD undef=.pointer (some ⟨w.heap.size,0,none⟩):=slot_is ((hA.kept 1 (Free.not_dst (by kernel_rfl))).trans rfl)
   simp [go_sem,e1]
   exact hK _ _ (Below.refl _ _) rfl
  ·intro listed A W hA hr K hK
   have e41:A.tmps[41]?.getD undef=.pointer (some ⟨w.heap.size,6,none⟩):=slot_is (hA.val 33 _ rfl (hr ⟨33,.data⟩ (by simp) rfl))
   have c:=hA.c.m.c6
   simp [go_sem,e41,c]
   exact hK _ _ (Below.refl _ _) rfl
  ·intro listed A W hA hr K hK
   have e40:A.tmps[40]?.getD undef=.string U5:=slot_is (hA.val 32 _ rfl (hr ⟨32,.data⟩ (by simp) rfl))
   have e42:A.tmps[42]?.getD undef=.string a:=slot_is (hA.val 34 _ rfl (hr ⟨34,.data⟩ (by simp) rfl))
   simp [go_sem,e40,e42,J6,q6]
   exact hK _ _ (Below.refl _ _) rfl
  ·intro listed A W hA hr K hK
   have e43:A.tmps[43]?.getD undef=.string U6:=slot_is (hA.val 35 _ rfl (hr ⟨35,.data⟩ (by simp) rfl))
   simp [go_sem,e43]
   exact hK _ _ (Below.refl _ _) rfl
 ·intro A W hA
  have s4:A.tmps.getD 4 undef=.string U6:=hA.val 36 _ rfl rfl
  have s1:A.tmps.getD 1 undef=.pointer (some ⟨w.heap.size,0,none⟩):=(hA.kept 1 (Free.not_dst (by kernel_rfl))).trans rfl
  have hsz:=hA.slots
  have hde:=hA.defers
  have i2:=hA.c
  clear hA i1
  obtain ⟨tm,de⟩:=A
  simp only at s4 s1 hsz hde
  obtain ⟨x0,x1,x2,x3,x4,x5,x6,x7,x8,x9,x10,x11,x12,x13,x14,x15,x16,x17,x18,x19,x20,x21,x22,x23,x24,x25,x26,x27,x28,x29,x30,x31,x32,x33,x34,x35,x36,x37,x38,x39,x40,x41,x42,x43,x44,x45,x46,x47,x48,x49,x50,x51,x52,x53,x54,x55,x56,x57,x58,x59,x60,x61,x62,x63,rfl⟩:=arr64 hsz
  have t4:x4=.string U6:=s4
  have t1:x1=.pointer (some ⟨w.heap.size,0,none⟩):=s1
  subst t4 t1 hde
  clear s4 s1 hsz
  obtain ⟨b,Hb⟩:∃ T:ByteArray,Hid (bodyL ⟨l,e,k,v,d,i.data.toList,a.data.toList⟩=T.data.toList):=⟨⟨(bodyL ⟨l,e,k,v,d,i.data.toList,a.data.toList⟩).toArray⟩,Lib.hid (by simp)⟩
  have zb:b.size=112:=by rw [Go.Lib.size_eq,← Hb.out]; exact bodyL_len h
  obtain ⟨M,HM⟩:∃ M:Int,Hid (((Crc.more 0 b.data.toList:Nat):Int)=M):=⟨_,rfl⟩
  have M0:0≤M:=by rw [← HM.out]; omega
  have M1:M<4294967296:=by
   have:=Crc.more_lt b.data.toList (s:=0) (by omega)
   rw [← HM.out]; omega
  obtain ⟨T6,H6⟩:∃ T:ByteArray,Hid ((⟨(putL M.toNat (clampN 4)).toArray⟩:ByteArray)=T):=⟨_,rfl⟩
  have z6:T6.size=4:=by rw [← H6.out]; exact put_size _ _
  have z0:T0.size=8:=by rw [← H0.out]; exact put_size _ _
  have z1:T1.size=4:=by rw [← H1.out]; exact put_size _ _
  obtain ⟨W1,K1⟩:∃ U,b++T6=U:=⟨_,rfl⟩
  obtain ⟨W2,K2⟩:∃ U,W1++T0=U:=⟨_,rfl⟩
  have g1:W1.size=116:=by rw [← K1,ByteArray.size_append]; omega
  have g2:W2.size=124:=by rw [← K2,ByteArray.size_append]; omega
  have K3:W2++T1=S:=by
   refine app_is ?_
   rw [← K2,← K1]
   simp only [ByteArray.data_append,Array.toList_append]
   rw [← hS,secL,← Hb.out,← H6.out,← H0.out,← H1.out,← HM.out,← Hb.out,Int.toNat_natCast,List.append_assoc]
   rfl
  have r1:¬ 9223372036854775807<b.size+T6.size:=by omega
  have r2:¬ 9223372036854775807<W1.size+T0.size:=by omega
  have r3:¬ 9223372036854775807<W2.size+T1.size:=by omega
  have hbs:b.size≤maxLen:=by unfold maxLen; omega
  have hle:U6.size≤111:=by
   have h1:=okR_i h
   have h2:=okR_a h
   simp only [← Go.Lib.size_eq] at h1 h2
   omega
  have HbU:Hid (∀ X:ByteArray,X.size=112→(∃ j,X.data.toList=U6.data.toList++List.replicate j 0)→X=b):=by
   refine Lib.hid ?_
   rintro X hX ⟨j,hj⟩
   apply bytes_ext
   have hl2:=congrArg List.length hj
   rw [List.length_append,List.length_replicate,← Go.Lib.size_eq,← Go.Lib.size_eq,hX] at hl2
   rw [hj,← Hb.out,bodyL,E6.out]
   congr 2
   have:=congrArg List.length E6.out
   rw [← Go.Lib.size_eq] at this
   omega
  clear hS h E6 J1 J2 J3 J4 J5 J6 q1 q2 q3 q4 q5 q6 hik hak g1 g2 z6 z0 z1 y6
  go_wp2_with fail
  go_loop [4] (fun s=>∃ X:ByteArray,X.size≤112∧s=.string X∧Hid (∃ j,X.data.toList=U6.data.toList++List.replicate j 0)) (fun s=>112-(match s with | .string X=>X.size|_=>0))
  case atStart=>exact ⟨U6,by omega,rfl,Lib.hid ⟨0,by simp⟩⟩
  case round =>
   obtain ⟨X,hX,rfl,HX⟩:=hrel
   by_cases hlt:X.size<112
   ·have hlti:(X.size:Int)<112:=by omega
    have hxz:¬ 9223372036854775807<X.size+(⟨#[0]⟩:ByteArray).size:=by show ¬ 9223372036854775807<X.size+1; omega
    obtain ⟨Y,hY⟩:∃ Y,X++(⟨#[0]⟩:ByteArray)=Y:=⟨_,rfl⟩
    have hYs:Y.size=X.size+1:=by rw [← hY,ByteArray.size_append]; rfl
    have HY:Hid (∃ j,Y.data.toList=U6.data.toList++List.replicate j 0):=by
     obtain ⟨j,hj⟩:=HX.out
     refine Lib.hid ⟨j+1,?_⟩
     rw [← hY,ByteArray.data_append,Array.toList_append,hj,List.replicate_succ',List.append_assoc]
    clear HX
    go_wp2_with fail
    go_round
    case rel=>exact ⟨Y,by omega,by rw [← hY],HY⟩
    case measure=>show 112-Y.size<112-X.size; omega
   ·have hX2:X.size=112:=by omega
    obtain rfl:=HbU.out X hX2 HX.out
    have hlti:¬ (X.size:Int)<112:=by omega
    clear HX HbU hlt
    go_wp2_with fail
    have hne:Nonempty (In (InvR w w.heap.size l e k v d i a)):=⟨⟨_,i2⟩⟩
    have F0:∀ j:In (InvR w w.heap.size l e k v d i a),j.W.cell? ⟨w.heap.size,0,none⟩=some (.int .u64 l):=fun j=>j.h.m.c0
    have F1:∀ j:In (InvR w w.heap.size l e k v d i a),j.W.cell? ⟨w.heap.size,1,none⟩=some (.int .u32 e):=fun j=>j.h.m.c1
    refine region_class (InvR w w.heap.size l e k v d i a) (by kernel_rfl) (by kernel_rfl) i2.drawn ?_
    repeat (go_big_quiet_step (first
     | (go_at_call 146; with_reducible exact class_call _ (fun hi=>inv_ge hi (refsum_is X M _ hbs HM.out)))
     | (go_at_call 145; with_reducible exact class_call _ (fun hi=>inv_ge hi (r1put M 4 T6 _ M0 (by omega) H6.out)))
     | (go_at_call 145; with_reducible exact class_call _ (fun hi=>inv_ge hi (r1put l 8 T0 _ l0 l1 H0.out)))
     | (go_at_call 145; with_reducible exact class_call _ (fun hi=>inv_ge hi (r1put e 4 T1 _ e0 (by omega) H1.out)))))
    refine wpQuiet_nil ?_
    rintro _ ⟨j,rfl⟩
    go_wp2_with fail
    go_ret2
    exact ⟨rfl,j.h.b⟩
end R6
open Go.RowKit Go.Lib Wd Cr Ck
set_option linter.unusedVariables false
theorem arr68 {α:Type} {cs:Array α} (h:cs.size=68):∃ y0 y1 y2 y3 y4 y5 y6 y7 y8 y9 y10 y11 y12 y13 y14 y15 y16 y17 y18 y19 y20 y21 y22 y23 y24 y25 y26 y27 y28 y29 y30 y31 y32 y33 y34 y35 y36 y37 y38 y39 y40 y41 y42 y43 y44 y45 y46 y47 y48 y49 y50 y51 y52 y53 y54 y55 y56 y57 y58 y59 y60 y61 y62 y63 y64 y65 y66 y67,cs=#[y0,y1,y2,y3,y4,y5,y6,y7,y8,y9,y10,y11,y12,y13,y14,y15,y16,y17,y18,y19,y20,y21,y22,y23,y24,y25,y26,y27,y28,y29,y30,y31,y32,y33,y34,y35,y36,y37,y38,y39,y40,y41,y42,y43,y44,y45,y46,y47,y48,y49,y50,y51,y52,y53,y54,y55,y56,y57,y58,y59,y60,y61,y62,y63,y64,y65,y66,y67]:=by
 obtain ⟨l⟩:=cs
 have h0:l.length=68:=h
 clear h
 obtain ⟨y0,l1,q0,h1⟩:=list_succ h0
 obtain ⟨y1,l2,q1,h2⟩:=list_succ h1
 obtain ⟨y2,l3,q2,h3⟩:=list_succ h2
 obtain ⟨y3,l4,q3,h4⟩:=list_succ h3
 obtain ⟨y4,l5,q4,h5⟩:=list_succ h4
 obtain ⟨y5,l6,q5,h6⟩:=list_succ h5
 obtain ⟨y6,l7,q6,h7⟩:=list_succ h6
 obtain ⟨y7,l8,q7,h8⟩:=list_succ h7
 obtain ⟨y8,l9,q8,h9⟩:=list_succ h8
 obtain ⟨y9,l10,q9,h10⟩:=list_succ h9
 obtain ⟨y10,l11,q10,h11⟩:=list_succ h10
 obtain ⟨y11,l12,q11,h12⟩:=list_succ h11
 obtain ⟨y12,l13,q12,h13⟩:=list_succ h12
 obtain ⟨y13,l14,q13,h14⟩:=list_succ h13
 obtain ⟨y14,l15,q14,h15⟩:=list_succ h14
 obtain ⟨y15,l16,q15,h16⟩:=list_succ h15
 obtain ⟨y16,l17,q16,h17⟩:=list_succ h16
 obtain ⟨y17,l18,q17,h18⟩:=list_succ h17
 obtain ⟨y18,l19,q18,h19⟩:=list_succ h18
 obtain ⟨y19,l20,q19,h20⟩:=list_succ h19
 obtain ⟨y20,l21,q20,h21⟩:=list_succ h20
 obtain ⟨y21,l22,q21,h22⟩:=list_succ h21
 obtain ⟨y22,l23,q22,h23⟩:=list_succ h22
 obtain ⟨y23,l24,q23,h24⟩:=list_succ h23
 obtain ⟨y24,l25,q24,h25⟩:=list_succ h24
 obtain ⟨y25,l26,q25,h26⟩:=list_succ h25
 obtain ⟨y26,l27,q26,h27⟩:=list_succ h26
 obtain ⟨y27,l28,q27,h28⟩:=list_succ h27
 obtain ⟨y28,l29,q28,h29⟩:=list_succ h28
 obtain ⟨y29,l30,q29,h30⟩:=list_succ h29
 obtain ⟨y30,l31,q30,h31⟩:=list_succ h30
 obtain ⟨y31,l32,q31,h32⟩:=list_succ h31
 obtain ⟨y32,l33,q32,h33⟩:=list_succ h32
 obtain ⟨y33,l34,q33,h34⟩:=list_succ h33
 obtain ⟨y34,l35,q34,h35⟩:=list_succ h34
 obtain ⟨y35,l36,q35,h36⟩:=list_succ h35
 obtain ⟨y36,l37,q36,h37⟩:=list_succ h36
 obtain ⟨y37,l38,q37,h38⟩:=list_succ h37
 obtain ⟨y38,l39,q38,h39⟩:=list_succ h38
 obtain ⟨y39,l40,q39,h40⟩:=list_succ h39
 obtain ⟨y40,l41,q40,h41⟩:=list_succ h40
 obtain ⟨y41,l42,q41,h42⟩:=list_succ h41
 obtain ⟨y42,l43,q42,h43⟩:=list_succ h42
 obtain ⟨y43,l44,q43,h44⟩:=list_succ h43
 obtain ⟨y44,l45,q44,h45⟩:=list_succ h44
 obtain ⟨y45,l46,q45,h46⟩:=list_succ h45
 obtain ⟨y46,l47,q46,h47⟩:=list_succ h46
 obtain ⟨y47,l48,q47,h48⟩:=list_succ h47
 obtain ⟨y48,l49,q48,h49⟩:=list_succ h48
 obtain ⟨y49,l50,q49,h50⟩:=list_succ h49
 obtain ⟨y50,l51,q50,h51⟩:=list_succ h50
 obtain ⟨y51,l52,q51,h52⟩:=list_succ h51
 obtain ⟨y52,l53,q52,h53⟩:=list_succ h52
 obtain ⟨y53,l54,q53,h54⟩:=list_succ h53
 obtain ⟨y54,l55,q54,h55⟩:=list_succ h54
 obtain ⟨y55,l56,q55,h56⟩:=list_succ h55
 obtain ⟨y56,l57,q56,h57⟩:=list_succ h56
 obtain ⟨y57,l58,q57,h58⟩:=list_succ h57
 obtain ⟨y58,l59,q58,h59⟩:=list_succ h58
 obtain ⟨y59,l60,q59,h60⟩:=list_succ h59
 obtain ⟨y60,l61,q60,h61⟩:=list_succ h60
 obtain ⟨y61,l62,q61,h62⟩:=list_succ h61
 obtain ⟨y62,l63,q62,h63⟩:=list_succ h62
 obtain ⟨y63,l64,q63,h64⟩:=list_succ h63
 obtain ⟨y64,l65,q64,h65⟩:=list_succ h64
 obtain ⟨y65,l66,q65,h66⟩:=list_succ h65
 obtain ⟨y66,l67,q66,h67⟩:=list_succ h66
 obtain ⟨y67,l68,q67,h68⟩:=list_succ h67
 have q68:=List.length_eq_zero_iff.1 h68
 subst q68 q67 q66 q65 q64 q63 q62 q61 q60 q59 q58 q57 q56 q55 q54 q53 q52 q51 q50 q49 q48 q47 q46 q45 q44 q43 q42 q41 q40 q39 q38 q37 q36 q35 q34 q33 q32 q31 q30 q29 q28 q27 q26 q25 q24 q23 q22 q21 q20 q19 q18 q17 q16 q15 q14 q13 q12 q11 q10 q9 q8 q7 q6 q5 q4 q3 q2 q1 q0
 exact ⟨y0,y1,y2,y3,y4,y5,y6,y7,y8,y9,y10,y11,y12,y13,y14,y15,y16,y17,y18,y19,y20,y21,y22,y23,y24,y25,y26,y27,y28,y29,y30,y31,y32,y33,y34,y35,y36,y37,y38,y39,y40,y41,y42,y43,y44,y45,y46,y47,y48,y49,y50,y51,y52,y53,y54,y55,y56,y57,y58,y59,y60,y61,y62,y63,y64,y65,y66,y67,rfl⟩
theorem V_mono {VL:List (World→Value→Prop)} {w w' : World} (h:∀ p∈VL,∀ u,p w u→p w' u):∀ j u,Free.V VL j w u→Free.V VL j w' u:=by
 intro j u hv
 unfold Free.V at *
 cases hi:VL[j]? with
 | none=>simp only [List.getD_eq_getElem?_getD,hi]; exact trivial
 | some p =>
   simp only [List.getD_eq_getElem?_getD,hi,Option.getD_some] at hv ⊢
   exact h p (List.mem_of_getElem? hi) u hv
theorem getD_no {listed:Array Bool} {i:Nat} (h:listed.getD i true=false):listed.getD i false=false:=by
 simp only [Array.getD_eq_getD_getElem?] at *
 cases e:listed[i]? with
 | none=>rw [e] at h; simp at h
 | some b=>rw [e] at h; simpa using h
theorem r1get0 (s:ByteArray) (r:Int) (w:World) (hr:((getN s.data.toList:Nat):Int)=r) :
 Calls Tryz.prog 149 #[.string s] w fun e w'=>e=.returned (.int .u64 r)∧w=w':=by
 subst hr; exact R1.get_any s w
structure DecC (w:World) (H:Nat) (listed:Array Bool) (W:World):Prop where
 b:Below w.heap.size w W
 z:ZR W w.heap.size
 n:w.heap.size<H
 sz:listed.getD 29 false=false→W.heap.size=H
theorem DecC.set {w W:World} {H i:Nat} {listed:Array Bool} (h:DecC w H listed W) (hi:i≠29):DecC w H (listed.setIfInBounds i true) W :=
 ⟨h.b,h.z,h.n,fun hl=>h.sz (by rw [← getD_set_ne false hi]; exact hl)⟩
theorem DecC.alloc {w W:World} {H:Nat} {listed:Array Bool} (h:DecC w H listed W) (cs:Array Value) (t:TypeId) (hs:W.heap.size=H) (hlt:29<listed.size):DecC w H (listed.setIfInBounds 29 true) (W.alloc (.cells cs t)) :=
 ⟨Wd.Ge.trans h.b (below1 _ _),h.z.later (below1 _ _),h.n,fun hl=>by simp [hlt] at hl⟩
theorem DecC.store {w W:World} {H:Nat} {listed:Array Bool} {l e k v d l' e' k' v' d' : Int} {i a i' a' : ByteArray} (h:DecC w H listed W) (G:FR W H l' e' k' v' d' i' a') :
 DecC w H (listed.setIfInBounds 30 true) ((((((((W.setCell ⟨H,0,none⟩ (.int .u64 l)).setCell ⟨H,1,none⟩ (.int .u32 e)).setCell ⟨H,2,none⟩ (.int .i64 k)).setCell ⟨H,3,none⟩ (.int .u64 v)).setCell ⟨H,4,none⟩ (.int .u64 d)).setCell ⟨H,5,none⟩ (.string i)).setCell ⟨H,6,none⟩ (.string a))) :=
 have hz:FR W w.heap.size 0 0 0 0 0 ⟨#[]⟩ ⟨#[]⟩:=⟨h.z.L,h.z.F⟩
 have hn:=h.n
 have hz':=hz.away (B:=H) (l:=l) (e:=e) (k:=k) (v:=v) (d:=d) (i:=i) (a:=a) (by omega)
 ⟨below7 l e k v d i a h.b (Nat.le_of_lt h.n),⟨hz'.L,hz'.F⟩,h.n,fun hl=>by rw [size7]; exact h.sz (by rw [← getD_set_ne false (show 30≠29 by decide)]; exact hl)⟩
structure DZ (w W:World):Prop where
 b:Below w.heap.size w W
 z:ZR W w.heap.size
theorem DZ.drawn {w W:World} (h:DZ w W):DZ w { W with drawn:=W.drawn+1 } :=
 ⟨⟨h.b.os,h.b.tape,h.b.output,h.b.size,h.b.block⟩,⟨⟨h.z.L.lt,h.z.L.c0,h.z.L.c1,h.z.L.c2,h.z.L.c3,h.z.L.c4,h.z.L.c5,h.z.L.c6⟩,h.z.F⟩⟩
namespace R6
set_option maxHeartbeats 4000000 in
set_option maxRecDepth 100000 in
theorem decode_len (s:ByteArray) (w:World) (hs:s.size≤maxLen) (hz:¬ s.size=128) :
 Calls Tryz.prog 106 #[.string s] w fun e' w'=>e' = .returned (.tuple #[.agg #[.int .u64 0,.int .u32 0,.int .i64 0,.int .u64 0,.int .u64 0,.string ⟨#[]⟩,.string ⟨#[]⟩],.int .i64 5])∧Below w.heap.size w w':=by
 have hzi:((s.size:Int) == 128)=false:=by rw [beq_eq_false_iff_ne]; omega
 have hzj:((s.size:Int) != 128)=true:=by rw [bne_iff_ne]; omega
 have Z:=layZ 70 w
 have B:=below1 w (.cells #[.int .u64 0,.int .u32 0,.int .i64 0,.int .u64 0,.int .u64 0,.string ⟨#[]⟩,.string ⟨#[]⟩] 70)
 unfold maxLen at hs
 clear hz
 go_enter Tryz.func106,Tryz.ntmps106
 go_upto_region 1 with fail
 generalize w.alloc (.cells #[.int .u64 0,.int .u32 0,.int .i64 0,.int .u64 0,.int .u64 0,.string ⟨#[]⟩,.string ⟨#[]⟩] 70)=w1 at *
 obtain ⟨g',o0,o1,o2,o3,o4,o5,o6⟩:=Z.L
 have z0:=Z.F 0 (by omega)
 have z1:=Z.F 1 (by omega)
 have z2:=Z.F 2 (by omega)
 have z3:=Z.F 3 (by omega)
 have z4:=Z.F 4 (by omega)
 have z5:=Z.F 5 (by omega)
 have z6:=Z.F 6 (by omega)
 have ZZ:=Lib.hid Z
 have BB:=Lib.hid B
 clear Z B
 go_wp2_with fail
 have L:=put7 0 0 0 0 0 ⟨#[]⟩ ⟨#[]⟩ (there_of ZZ.out.L ZZ.out.F) ZZ.out.L.lt
 have HB:=below7 0 0 0 0 0 ⟨#[]⟩ ⟨#[]⟩ BB.out (Nat.le_refl _)
 exact bodyPost_ret (res_rec2 rfl _ _ w.heap.size rfl L) rfl ⟨rfl,HB⟩
set_option maxHeartbeats 8000000 in
set_option maxRecDepth 100000 in
theorem decode_at (s:ByteArray) (l e k v d:Int) (i a:ByteArray) (S:ByteArray) (x:Int) (n3 n4:Nat) (w:World) (hz:s.size=128) (b13:(s[13]'(by omega)).toNat=n3) (b14:(s[14]'(by omega)).toNat=n4) (hn:31+n3+n4≤112)
 (g0:Hid (((getN (s.extract 0 8).data.toList:Nat):Int)=l)) (g1:Hid (((getN (s.extract 8 12).data.toList:Nat):Int)=e)) (b12:((s[12]'(by omega)).toNat:Int)=k) (g2:Hid (((getN (s.extract 15 23).data.toList:Nat):Int)=v)) (g3:Hid (((getN (s.extract 23 31).data.toList:Nat):Int)=d))
 (x4:s.extract 31 (31+n3)=i) (x5:s.extract (31+n3) (31+n3+n4)=a) (he:0≤e∧e<4294967296)
 (E:Hid (∀ w,Calls Tryz.prog 147 #[.agg #[.int .u64 l,.int .u32 e,.int .i64 k,.int .u64 v,.int .u64 d,.string i,.string a]] w fun e' w'=>e' = .returned (.tuple #[.string S,.int .i64 x])∧Below w.heap.size w w')) (rv:Value) (rx:Int)
 (hx:(x=0∧S=s∧rv=.agg #[.int .u64 l,.int .u32 e,.int .i64 k,.int .u64 v,.int .u64 d,.string i,.string a]∧rx=0)∨((x=5∨x=0∧(S.toList == s.toList)=false)∧rv=.agg #[.int .u64 0,.int .u32 0,.int .i64 0,.int .u64 0,.int .u64 0,.string ⟨#[]⟩,.string ⟨#[]⟩]∧rx=5)) :
 Calls Tryz.prog 106 #[.string s] w fun e' w'=>e' = .returned (.tuple #[rv,.int .i64 rx])∧Below w.heap.size w w':=by
 have hzi:(s.size:Int)=128:=by omega
 have Z:=layZ 70 w
 have B:=below1 w (.cells #[.int .u64 0,.int .u32 0,.int .i64 0,.int .u64 0,.int .u64 0,.string ⟨#[]⟩,.string ⟨#[]⟩] 70)
 obtain ⟨A0,x0⟩:∃ A,s.extract 0 8=A:=⟨_,rfl⟩
 obtain ⟨A1,x1⟩:∃ A,s.extract 8 12=A:=⟨_,rfl⟩
 obtain ⟨A2,x2⟩:∃ A,s.extract 15 23=A:=⟨_,rfl⟩
 obtain ⟨A3,x3⟩:∃ A,s.extract 23 31=A:=⟨_,rfl⟩
 rw [x0] at g0
 rw [x1] at g1
 rw [x2] at g2
 rw [x3] at g3
 obtain ⟨m3,hm3⟩:∃ m:Nat,31+n3=m:=⟨_,rfl⟩
 rw [hm3] at x4 x5 hn
 obtain ⟨m4,hm4⟩:∃ m:Nat,m3+n4=m:=⟨_,rfl⟩
 rw [hm4] at x5 hn
 have i3:31+(n3:Int)=(m3:Int):=by omega
 have i4:(m3:Int)+(n4:Int)=(m4:Int):=by omega
 have hn' : (m4:Int)≤112:=by omega
 have c3:(n3:Int)<256:=by omega
 have c4:(n4:Int)<256:=by omega
 have b31:(31:Int)≤(m3:Int):=by omega
 have bm3:(m3:Int)≤128:=by omega
 have bm34:(m3:Int)≤(m4:Int):=by omega
 have bm4:(m4:Int)≤128:=by omega
 have hk0:0≤k:=by omega
 have hk1:k<256:=by
  have:=(s[12]'(by omega)).toNat_lt
  omega
 go_enter Tryz.func106,Tryz.ntmps106
 go_upto_region 1 with fail
 generalize w.alloc (.cells #[.int .u64 0,.int .u32 0,.int .i64 0,.int .u64 0,.int .u64 0,.string ⟨#[]⟩,.string ⟨#[]⟩] 70)=w1 at *
 have h0:DZ w w1:=⟨B,Z⟩
 clear B Z
 go_wp2_with fail
 have hne:Nonempty (In (DZ w)):=⟨⟨_,h0⟩⟩
 refine region_class (DZ w) (by kernel_rfl) (by kernel_rfl) h0.drawn ?_
 repeat (go_big_quiet_step (fail))
 refine wpQuiet_nil ?_
 rintro _ ⟨jj,rfl⟩
 obtain ⟨w2,h2⟩:=jj
 simp only
 clear h0 hne
 have hlt:=h2.z.L.lt
 go_wp2_with fail
 obtain ⟨H,hH⟩:∃ H,w2.heap.size=H:=⟨_,rfl⟩
 refine FreeB.wp_freeB [(fun _ u=>u=.string s),
  (fun _ u=>u=.string A0),
  (fun _ u=>u=.int .u64 l),
  (fun _ u=>u=.string s),
  (fun _ u=>u=.string A1),
  (fun _ u=>u=.int .u64 e),
  (fun _ u=>u=.int .u32 e),
  (fun _ u=>u=.string s),
  (fun _ u=>u=.int .u8 k),
  (fun _ u=>u=.int .i64 k),
  (fun _ u=>u=.string s),
  (fun _ u=>u=.string A2),
  (fun _ u=>u=.int .u64 v),
  (fun _ u=>u=.string s),
  (fun _ u=>u=.string A3),
  (fun _ u=>u=.int .u64 d),
  (fun _ u=>u=.string s),
  (fun _ u=>u=.int .i64 (n3:Int)),
  (fun _ u=>u=.int .i64 (m3:Int)),
  (fun _ u=>u=.string i),
  (fun _ u=>u=.string s),
  (fun _ u=>u=.int .i64 (n3:Int)),
  (fun _ u=>u=.int .i64 (m3:Int)),
  (fun _ u=>u=.int .i64 (n3:Int)),
  (fun _ u=>u=.int .i64 (m3:Int)),
  (fun _ u=>u=.int .i64 (n4:Int)),
  (fun _ u=>u=.int .i64 (m4:Int)),
  (fun _ u=>u=.string a),
  (fun _ u=>u=.agg #[.int .u64 l,.int .u32 e,.int .i64 k,.int .u64 v,.int .u64 d,.string i,.string a]),
  (fun w u=>u=.pointer (some ⟨H,0,none⟩)∧∃ l e k v d i a,FR w H l e k v d i a),
  (fun w _=>LiesR w H l e k v d i a)] (DecC w H) (by kernel_rfl) (by kernel_rfl) ⟨h2.drawn.b,h2.drawn.z,by omega,fun _=>hH⟩ ?_ ?_
 ·refine ⟨?_,?_,?_,?_,?_,?_,?_,?_,?_,?_,?_,?_,?_,?_,?_,?_,?_,?_,?_,?_,?_,?_,?_,?_,?_,?_,?_,?_,?_,?_,?_,trivial⟩
  ·intro listed A W hA hno hr K hK
   have e0:A.tmps[0]?.getD undef=.string s:=slot_is ((hA.kept 0 (Free.not_dst (by kernel_rfl))).trans rfl)
   simp [go_sem,e0]
   exact hK _ _ (hA.c.set (by decide)) rfl (fun _ _ _ _ h=>h)
  ·intro listed A W hA hno hr K hK
   have e25:A.tmps[25]?.getD undef=.string s:=slot_is (hA.val 0 _ rfl (hr ⟨0,.data⟩ (by simp) rfl))
   simp [go_sem,e25,x0,hz]
   exact hK _ _ (hA.c.set (by decide)) rfl (fun _ _ _ _ h=>h)
  ·intro listed A W hA hno hr K hK
   have e26:A.tmps[26]?.getD undef=.string A0:=slot_is (hA.val 1 _ rfl (hr ⟨1,.data⟩ (by simp) rfl))
   simp [go_sem,e26]
   refine (r1get0 _ _ _ g0.out).mono ?_
   rintro e' w' ⟨rfl,rfl⟩
   exact hK _ _ (hA.c.set (by decide)) rfl (fun _ _ _ _ h=>h)
  ·intro listed A W hA hno hr K hK
   have e0:A.tmps[0]?.getD undef=.string s:=slot_is ((hA.kept 0 (Free.not_dst (by kernel_rfl))).trans rfl)
   simp [go_sem,e0]
   exact hK _ _ (hA.c.set (by decide)) rfl (fun _ _ _ _ h=>h)
  ·intro listed A W hA hno hr K hK
   have e28:A.tmps[28]?.getD undef=.string s:=slot_is (hA.val 3 _ rfl (hr ⟨3,.data⟩ (by simp) rfl))
   simp [go_sem,e28,x1,hz]
   exact hK _ _ (hA.c.set (by decide)) rfl (fun _ _ _ _ h=>h)
  ·intro listed A W hA hno hr K hK
   have e29:A.tmps[29]?.getD undef=.string A1:=slot_is (hA.val 4 _ rfl (hr ⟨4,.data⟩ (by simp) rfl))
   simp [go_sem,e29]
   refine (r1get0 _ _ _ g1.out).mono ?_
   rintro e' w' ⟨rfl,rfl⟩
   exact hK _ _ (hA.c.set (by decide)) rfl (fun _ _ _ _ h=>h)
  ·intro listed A W hA hno hr K hK
   have e30:A.tmps[30]?.getD undef=.int .u64 e:=slot_is (hA.val 5 _ rfl (hr ⟨5,.data⟩ (by simp) rfl))
   simp [go_sem,e30]
   refine hK _ _ (hA.c.set (by decide)) (show Value.int .u32 _=.int .u32 e from Cr.val_int ?_) (fun _ _ _ _ h=>h)
   first|omega|(rw [IntKind.wrap_u32]; omega)
  ·intro listed A W hA hno hr K hK
   have e0:A.tmps[0]?.getD undef=.string s:=slot_is ((hA.kept 0 (Free.not_dst (by kernel_rfl))).trans rfl)
   simp [go_sem,e0]
   exact hK _ _ (hA.c.set (by decide)) rfl (fun _ _ _ _ h=>h)
  ·intro listed A W hA hno hr K hK
   have e32:A.tmps[32]?.getD undef=.string s:=slot_is (hA.val 7 _ rfl (hr ⟨7,.data⟩ (by simp) rfl))
   simp [go_sem,e32,hz,b12]
   exact hK _ _ (hA.c.set (by decide)) rfl (fun _ _ _ _ h=>h)
  ·intro listed A W hA hno hr K hK
   have e33:A.tmps[33]?.getD undef=.int .u8 k:=slot_is (hA.val 8 _ rfl (hr ⟨8,.data⟩ (by simp) rfl))
   simp [go_sem,e33]
   refine hK _ _ (hA.c.set (by decide)) (show Value.int .i64 _=.int .i64 k from Cr.val_int ?_) (fun _ _ _ _ h=>h)
   first|omega|(rw [IntKind.wrap_i64]; omega)
  ·intro listed A W hA hno hr K hK
   have e0:A.tmps[0]?.getD undef=.string s:=slot_is ((hA.kept 0 (Free.not_dst (by kernel_rfl))).trans rfl)
   simp [go_sem,e0]
   exact hK _ _ (hA.c.set (by decide)) rfl (fun _ _ _ _ h=>h)
  ·intro listed A W hA hno hr K hK
   have e35:A.tmps[35]?.getD undef=.string s:=slot_is (hA.val 10 _ rfl (hr ⟨10,.data⟩ (by simp) rfl))
   simp [go_sem,e35,x2,hz]
   exact hK _ _ (hA.c.set (by decide)) rfl (fun _ _ _ _ h=>h)
  ·intro listed A W hA hno hr K hK
   have e36:A.tmps[36]?.getD undef=.string A2:=slot_is (hA.val 11 _ rfl (hr ⟨11,.data⟩ (by simp) rfl))
   simp [go_sem,e36]
   refine (r1get0 _ _ _ g2.out).mono ?_
   rintro e' w' ⟨rfl,rfl⟩
   exact hK _ _ (hA.c.set (by decide)) rfl (fun _ _ _ _ h=>h)
  ·intro listed A W hA hno hr K hK
   have e0:A.tmps[0]?.getD undef=.string s:=slot_is ((hA.kept 0 (Free.not_dst (by kernel_rfl))).trans rfl)
   simp [go_sem,e0]
   exact hK _ _ (hA.c.set (by decide)) rfl (fun _ _ _ _ h=>h)
  ·intro listed A W hA hno hr K hK
   have e38:A.tmps[38]?.getD undef=.string s:=slot_is (hA.val 13 _ rfl (hr ⟨13,.data⟩ (by simp) rfl))
   simp [go_sem,e38,x3,hz]
   exact hK _ _ (hA.c.set (by decide)) rfl (fun _ _ _ _ h=>h)
  ·intro listed A W hA hno hr K hK
   have e39:A.tmps[39]?.getD undef=.string A3:=slot_is (hA.val 14 _ rfl (hr ⟨14,.data⟩ (by simp) rfl))
   simp [go_sem,e39]
   refine (r1get0 _ _ _ g3.out).mono ?_
   rintro e' w' ⟨rfl,rfl⟩
   exact hK _ _ (hA.c.set (by decide)) rfl (fun _ _ _ _ h=>h)
  ·intro listed A W hA hno hr K hK
   have e0:A.tmps[0]?.getD undef=.string s:=slot_is ((hA.kept 0 (Free.not_dst (by kernel_rfl))).trans rfl)
   simp [go_sem,e0]
   exact hK _ _ (hA.c.set (by decide)) rfl (fun _ _ _ _ h=>h)
  ·intro listed A W hA hno hr K hK
   have e4:A.tmps[4]?.getD undef=.int .i64 (n3:Int):=slot_is ((hA.kept 4 (Free.not_dst (by kernel_rfl))).trans rfl)
   simp [go_sem,e4]
   exact hK _ _ (hA.c.set (by decide)) rfl (fun _ _ _ _ h=>h)
  ·intro listed A W hA hno hr K hK
   have e42:A.tmps[42]?.getD undef=.int .i64 (n3:Int):=slot_is (hA.val 17 _ rfl (hr ⟨17,.data⟩ (by simp) rfl))
   simp [go_sem,e42]
   refine hK _ _ (hA.c.set (by decide)) (show Value.int .i64 _=.int .i64 (m3:Int) from Cr.val_int ?_) (fun _ _ _ _ h=>h)
   first|omega|(rw [IntKind.wrap_i64]; omega)
  ·intro listed A W hA hno hr K hK
   have e41:A.tmps[41]?.getD undef=.string s:=slot_is (hA.val 16 _ rfl (hr ⟨16,.data⟩ (by simp) rfl))
   have e43:A.tmps[43]?.getD undef=.int .i64 (m3:Int):=slot_is (hA.val 18 _ rfl (hr ⟨18,.data⟩ (by simp) rfl))
   simp [go_sem,e41,e43,x4,hz,b31,bm3]
   exact hK _ _ (hA.c.set (by decide)) rfl (fun _ _ _ _ h=>h)
  ·intro listed A W hA hno hr K hK
   have e0:A.tmps[0]?.getD undef=.string s:=slot_is ((hA.kept 0 (Free.not_dst (by kernel_rfl))).trans rfl)
   simp [go_sem,e0]
   exact hK _ _ (hA.c.set (by decide)) rfl (fun _ _ _ _ h=>h)
  ·intro listed A W hA hno hr K hK
   have e4:A.tmps[4]?.getD undef=.int .i64 (n3:Int):=slot_is ((hA.kept 4 (Free.not_dst (by kernel_rfl))).trans rfl)
   simp [go_sem,e4]
   exact hK _ _ (hA.c.set (by decide)) rfl (fun _ _ _ _ h=>h)
  ·intro listed A W hA hno hr K hK
   have e46:A.tmps[46]?.getD undef=.int .i64 (n3:Int):=slot_is (hA.val 21 _ rfl (hr ⟨21,.data⟩ (by simp) rfl))
   simp [go_sem,e46]
   refine hK _ _ (hA.c.set (by decide)) (show Value.int .i64 _=.int .i64 (m3:Int) from Cr.val_int ?_) (fun _ _ _ _ h=>h)
   first|omega|(rw [IntKind.wrap_i64]; omega)
  ·intro listed A W hA hno hr K hK
   have e4:A.tmps[4]?.getD undef=.int .i64 (n3:Int):=slot_is ((hA.kept 4 (Free.not_dst (by kernel_rfl))).trans rfl)
   simp [go_sem,e4]
   exact hK _ _ (hA.c.set (by decide)) rfl (fun _ _ _ _ h=>h)
  ·intro listed A W hA hno hr K hK
   have e48:A.tmps[48]?.getD undef=.int .i64 (n3:Int):=slot_is (hA.val 23 _ rfl (hr ⟨23,.data⟩ (by simp) rfl))
   simp [go_sem,e48]
   refine hK _ _ (hA.c.set (by decide)) (show Value.int .i64 _=.int .i64 (m3:Int) from Cr.val_int ?_) (fun _ _ _ _ h=>h)
   first|omega|(rw [IntKind.wrap_i64]; omega)
  ·intro listed A W hA hno hr K hK
   have e5:A.tmps[5]?.getD undef=.int .i64 (n4:Int):=slot_is ((hA.kept 5 (Free.not_dst (by kernel_rfl))).trans rfl)
   simp [go_sem,e5]
   exact hK _ _ (hA.c.set (by decide)) rfl (fun _ _ _ _ h=>h)
  ·intro listed A W hA hno hr K hK
   have e49:A.tmps[49]?.getD undef=.int .i64 (m3:Int):=slot_is (hA.val 24 _ rfl (hr ⟨24,.data⟩ (by simp) rfl))
   have e50:A.tmps[50]?.getD undef=.int .i64 (n4:Int):=slot_is (hA.val 25 _ rfl (hr ⟨25,.data⟩ (by simp) rfl))
   simp [go_sem,e49,e50]
   refine hK _ _ (hA.c.set (by decide)) (show Value.int .i64 _=.int .i64 (m4:Int) from Cr.val_int ?_) (fun _ _ _ _ h=>h)
   first|omega|(rw [IntKind.wrap_i64]; omega)
  ·intro listed A W hA hno hr K hK
   have e45:A.tmps[45]?.getD undef=.string s:=slot_is (hA.val 20 _ rfl (hr ⟨20,.data⟩ (by simp) rfl))
   have e47:A.tmps[47]?.getD undef=.int .i64 (m3:Int):=slot_is (hA.val 22 _ rfl (hr ⟨22,.data⟩ (by simp) rfl))
   have e51:A.tmps[51]?.getD undef=.int .i64 (m4:Int):=slot_is (hA.val 26 _ rfl (hr ⟨26,.data⟩ (by simp) rfl))
   simp [go_sem,e45,e47,e51,x5,hz,bm34,bm4]
   exact hK _ _ (hA.c.set (by decide)) rfl (fun _ _ _ _ h=>h)
  ·intro listed A W hA hno hr K hK
   have e27:A.tmps[27]?.getD undef=.int .u64 l:=slot_is (hA.val 2 _ rfl (hr ⟨2,.data⟩ (by simp) rfl))
   have e31:A.tmps[31]?.getD undef=.int .u32 e:=slot_is (hA.val 6 _ rfl (hr ⟨6,.data⟩ (by simp) rfl))
   have e34:A.tmps[34]?.getD undef=.int .i64 k:=slot_is (hA.val 9 _ rfl (hr ⟨9,.data⟩ (by simp) rfl))
   have e37:A.tmps[37]?.getD undef=.int .u64 v:=slot_is (hA.val 12 _ rfl (hr ⟨12,.data⟩ (by simp) rfl))
   have e40:A.tmps[40]?.getD undef=.int .u64 d:=slot_is (hA.val 15 _ rfl (hr ⟨15,.data⟩ (by simp) rfl))
   have e44:A.tmps[44]?.getD undef=.string i:=slot_is (hA.val 19 _ rfl (hr ⟨19,.data⟩ (by simp) rfl))
   have e52:A.tmps[52]?.getD undef=.string a:=slot_is (hA.val 27 _ rfl (hr ⟨27,.data⟩ (by simp) rfl))
   simp [go_sem,e27,e31,e34,e37,e40,e44,e52]
   exact hK _ _ (hA.c.set (by decide)) rfl (fun _ _ _ _ h=>h)
  ·intro listed A W hA hno hr K hK
   have hsz:=hA.c.sz (getD_no hno)
   simp [go_sem]
   refine hK _ _ (hA.c.alloc #[.int .u64 0,.int .u32 0,.int .i64 0,.int .u64 0,.int .u64 0,.string ⟨#[]⟩,.string ⟨#[]⟩] 70 hsz (by have:=hA.size; simp at this; omega)) ?_ ?_
   ·exact ⟨by rw [← hsz],0,0,0,0,0,⟨#[]⟩,⟨#[]⟩,by rw [← hsz]; exact layF 0 0 0 0 0 ⟨#[]⟩ ⟨#[]⟩ 70 W⟩
   ·intro j u _ _ hv
    refine V_mono (fun p hp u hu=>?_) j u hv
    simp only [List.mem_cons,List.not_mem_nil,or_false] at hp
    rcases hp with rfl|rfl|rfl|rfl|rfl|rfl|rfl|rfl|rfl|rfl|rfl|rfl|rfl|rfl|rfl|rfl|rfl|rfl|rfl|rfl|rfl|rfl|rfl|rfl|rfl|rfl|rfl|rfl|rfl|rfl|rfl
    all_goals first
     | (with_reducible exact hu)
     | exact LiesR.later hu (below1 _ _)
     | (obtain ⟨h1,l',e',k',v',d',i',a',h2⟩:=hu
        exact ⟨h1,l',e',k',v',d',i',a',h2.later (below1 _ _)⟩)
  ·intro listed A W hA hno hr K hK
   have e6:(fun w u=>u=.pointer (some ⟨H,0,none⟩)∧∃ l e k v d i a,FR w H l e k v d i a) W (A.tmps.getD 6 undef):=hA.val 29 _ rfl (hr ⟨29,.data⟩ (by simp) rfl)
   have e53:A.tmps[53]?.getD undef=.agg #[.int .u64 l,.int .u32 e,.int .i64 k,.int .u64 v,.int .u64 d,.string i,.string a]:=slot_is (hA.val 28 _ rfl (hr ⟨28,.data⟩ (by simp) rfl))
   obtain ⟨e6,l',e',k',v',d',i',a',G⟩:=e6
   replace e6:=slot_is e6
   obtain ⟨cg,c0,c1,c2,c3,c4,c5,c6⟩:=G.L
   have z0:=G.F 0 (by omega)
   have z1:=G.F 1 (by omega)
   have z2:=G.F 2 (by omega)
   have z3:=G.F 3 (by omega)
   have z4:=G.F 4 (by omega)
   have z5:=G.F 5 (by omega)
   have z6:=G.F 6 (by omega)
   simp [go_sem,e6,e53,c0,c1,c2,c3,c4,c5,c6,z0,z1,z2,z3,z4,z5,z6]
   refine hK undef _ (hA.c.store (l:=l) (e:=e) (k:=k) (v:=v) (d:=d) (i:=i) (a:=a) G) (G.put (l:=l) (e:=e) (k:=k) (v:=v) (d:=d) (i:=i) (a:=a)).L ?_
   intro j u _ _ hv
   refine V_mono (fun p hp u hu=>?_) j u hv
   simp only [List.mem_cons,List.not_mem_nil,or_false] at hp
   rcases hp with rfl|rfl|rfl|rfl|rfl|rfl|rfl|rfl|rfl|rfl|rfl|rfl|rfl|rfl|rfl|rfl|rfl|rfl|rfl|rfl|rfl|rfl|rfl|rfl|rfl|rfl|rfl|rfl|rfl|rfl|rfl
   all_goals first
    | (with_reducible exact hu)
    | exact (G.put (l:=l) (e:=e) (k:=k) (v:=v) (d:=d) (i:=i) (a:=a)).L
    | exact ⟨And.left hu,l,e,k,v,d,i,a,G.put⟩
 ·intro A W hA
  have s6:A.tmps.getD 6 undef=.pointer (some ⟨H,0,none⟩):=(hA.val 29 _ rfl rfl).1
  have hL:LiesR W H l e k v d i a:=hA.val 30 _ rfl rfl
  have s0:A.tmps.getD 0 undef=.string s:=(hA.kept 0 (Free.not_dst (by kernel_rfl))).trans rfl
  have s2:A.tmps.getD 2 undef=.pointer (some ⟨w.heap.size,0,none⟩):=(hA.kept 2 (Free.not_dst (by kernel_rfl))).trans rfl
  have hsz:=hA.slots
  have hde:=hA.defers
  have Z:=hA.c.z
  have B:=hA.c.b
  clear hA h2
  obtain ⟨tm,de⟩:=A
  simp only at s6 s0 s2 hsz hde
  obtain ⟨y0,y1,y2,y3,y4,y5,y6,y7,y8,y9,y10,y11,y12,y13,y14,y15,y16,y17,y18,y19,y20,y21,y22,y23,y24,y25,y26,y27,y28,y29,y30,y31,y32,y33,y34,y35,y36,y37,y38,y39,y40,y41,y42,y43,y44,y45,y46,y47,y48,y49,y50,y51,y52,y53,y54,y55,y56,y57,y58,y59,y60,y61,y62,y63,y64,y65,y66,y67,rfl⟩:=arr68 hsz
  have t6:y6=.pointer (some ⟨H,0,none⟩):=s6
  have t0:y0=.string s:=s0
  have t2:y2=.pointer (some ⟨w.heap.size,0,none⟩):=s2
  subst t6 t0 t2 hde
  clear s6 s0 s2 hsz
  clear g0 g1 g2 g3 x0 x1 x2 x3 x4 x5 b12 b13 b14
  obtain ⟨cg,c0,c1,c2,c3',c4',c5,c6⟩:=hL
  have hL:LiesR W H l e k v d i a:=⟨cg,c0,c1,c2,c3',c4',c5,c6⟩
  go_wp2_with fail
  refine (E.out _).mono ?_
  rintro e' w3 ⟨rfl,hb⟩
  clear c0 c1 c2 c3' c4' c5 c6 cg
  replace hL:=hL.later hb
  replace Z:=Z.later hb
  replace B:=Wd.Ge.trans B hb
  clear hb E
  rcases hx with ⟨rfl,rfl,rfl,rfl⟩ | ⟨hx,rfl,rfl⟩
  ·have hq:=eq_self S
   obtain ⟨cg,c0,c1,c2,c3',c4',c5,c6⟩:=hL
   obtain ⟨g',o0,o1,o2,o3,o4,o5,o6⟩:=Z.L
   have z0:=Z.F 0 (by omega)
   have z1:=Z.F 1 (by omega)
   have z2:=Z.F 2 (by omega)
   have z3:=Z.F 3 (by omega)
   have z4:=Z.F 4 (by omega)
   have z5:=Z.F 5 (by omega)
   have z6:=Z.F 6 (by omega)
   have ZZ:=Lib.hid Z
   have BB:=Lib.hid B
   clear Z B
   go_wp2_with fail
   have L:=put7 l e k v d i a (there_of ZZ.out.L ZZ.out.F) ZZ.out.L.lt
   have HB:=below7 l e k v d i a BB.out (Nat.le_refl _)
   exact bodyPost_ret (res_rec2 rfl _ _ w.heap.size rfl L) rfl ⟨rfl,HB⟩
  ·rcases hx with rfl | ⟨rfl,hq⟩
   all_goals
    obtain ⟨g',o0,o1,o2,o3,o4,o5,o6⟩:=Z.L
    have z0:=Z.F 0 (by omega)
    have z1:=Z.F 1 (by omega)
    have z2:=Z.F 2 (by omega)
    have z3:=Z.F 3 (by omega)
    have z4:=Z.F 4 (by omega)
    have z5:=Z.F 5 (by omega)
    have z6:=Z.F 6 (by omega)
    have ZZ:=Lib.hid Z
    have BB:=Lib.hid B
    clear Z B
    go_wp2_with fail
    have L:=put7 0 0 0 0 0 ⟨#[]⟩ ⟨#[]⟩ (there_of ZZ.out.L ZZ.out.F) ZZ.out.L.lt
    have HB:=below7 0 0 0 0 0 ⟨#[]⟩ ⟨#[]⟩ BB.out (Nat.le_refl _)
    exact bodyPost_ret (res_rec2 rfl _ _ w.heap.size rfl L) rfl ⟨rfl,HB⟩
end R6
open Go.RowKit Go.Lib Wd Cr Ck
set_option linter.unusedVariables false
namespace R6
set_option maxHeartbeats 4000000 in
set_option maxRecDepth 100000 in
theorem decode_big (s:ByteArray) (n3 n4:Nat) (w:World) (hz:s.size=128) (b13:(s[13]'(by omega)).toNat=n3) (b14:(s[14]'(by omega)).toNat=n4) (hn:112<31+n3+n4) :
 Calls Tryz.prog 106 #[.string s] w fun e' w'=>e' = .returned (.tuple #[.agg #[.int .u64 0,.int .u32 0,.int .i64 0,.int .u64 0,.int .u64 0,.string ⟨#[]⟩,.string ⟨#[]⟩],.int .i64 5])∧Below w.heap.size w w':=by
 have hzi:(s.size:Int)=128:=by omega
 have Z:=layZ 70 w
 have B:=below1 w (.cells #[.int .u64 0,.int .u32 0,.int .i64 0,.int .u64 0,.int .u64 0,.string ⟨#[]⟩,.string ⟨#[]⟩] 70)
 have c3:(n3:Int)<256:=by
  have:=(s[13]'(by omega)).toNat_lt
  omega
 have c4:(n4:Int)<256:=by
  have:=(s[14]'(by omega)).toNat_lt
  omega
 have hn' : 112<31+(n3:Int)+(n4:Int):=by omega
 go_enter Tryz.func106,Tryz.ntmps106
 go_upto_region 1 with fail
 generalize w.alloc (.cells #[.int .u64 0,.int .u32 0,.int .i64 0,.int .u64 0,.int .u64 0,.string ⟨#[]⟩,.string ⟨#[]⟩] 70)=w1 at *
 have h0:DZ w w1:=⟨B,Z⟩
 clear B Z
 go_wp2_with fail
 have hne:Nonempty (In (DZ w)):=⟨⟨_,h0⟩⟩
 refine region_class (DZ w) (by kernel_rfl) (by kernel_rfl) h0.drawn ?_
 repeat (go_big_quiet_step (fail))
 refine wpQuiet_nil ?_
 rintro _ ⟨jj,rfl⟩
 obtain ⟨w2,h2⟩:=jj
 simp only
 clear h0 hne
 obtain ⟨B,Z⟩:=h2
 obtain ⟨g',o0,o1,o2,o3,o4,o5,o6⟩:=Z.L
 have z0:=Z.F 0 (by omega)
 have z1:=Z.F 1 (by omega)
 have z2:=Z.F 2 (by omega)
 have z3:=Z.F 3 (by omega)
 have z4:=Z.F 4 (by omega)
 have z5:=Z.F 5 (by omega)
 have z6:=Z.F 6 (by omega)
 have ZZ:=Lib.hid Z
 have BB:=Lib.hid B
 clear Z B
 go_wp2_with fail
 have L:=put7 0 0 0 0 0 ⟨#[]⟩ ⟨#[]⟩ (there_of ZZ.out.L ZZ.out.F) ZZ.out.L.lt
 have HB:=below7 0 0 0 0 0 ⟨#[]⟩ ⟨#[]⟩ BB.out (Nat.le_refl _)
 exact bodyPost_ret (res_rec2 rfl _ _ w.heap.size rfl L) rfl ⟨rfl,HB⟩
theorem n_of (s:ByteArray) (hz:s.size=128) (n3 n4:Nat) (b13:(s[13]'(by omega)).toNat=n3) (b14:(s[14]'(by omega)).toNat=n4):getN ((s.data.toList.drop 13).take 1)=n3∧getN ((s.data.toList.drop 14).take 1)=n4:=by
 have hl:s.data.toList.length=128:=by rw [← Go.Lib.size_eq]; exact hz
 rw [getN_one _ _ (by omega),getN_one _ _ (by omega),← R1.byte_get s 13 (by omega),← R1.byte_get s 14 (by omega)]
 exact ⟨b13,b14⟩
theorem sec_small (s:ByteArray) (hz:s.size=128) (n3 n4:Nat) (b13:(s[13]'(by omega)).toNat=n3) (b14:(s[14]'(by omega)).toNat=n4) (h:okR (cutR s.data.toList)=true):31+n3+n4≤112:=by
 obtain ⟨e3,e4⟩:=n_of s hz n3 n4 b13 b14
 have hl:s.data.toList.length=128:=by rw [← Go.Lib.size_eq]; exact hz
 have h1:=okR_i h
 have h2:=okR_a h
 simp only [cutR,List.length_take,List.length_drop,e3,e4,hl] at h1 h2
 omega
theorem decode_is (s:ByteArray) (l e k v d:Int) (i a:ByteArray) (w:World) (hs:s.size≤maxLen) (hR:cutR s.data.toList=⟨l,e,k,v,d,i.data.toList,a.data.toList⟩) (rv:Value) (rx:Int)
 (hx:(isSec s.data.toList=true∧rv=.agg #[.int .u64 l,.int .u32 e,.int .i64 k,.int .u64 v,.int .u64 d,.string i,.string a]∧rx=0)∨(isSec s.data.toList=false∧rv=.agg #[.int .u64 0,.int .u32 0,.int .i64 0,.int .u64 0,.int .u64 0,.string ⟨#[]⟩,.string ⟨#[]⟩]∧rx=5)) :
 Calls Tryz.prog 106 #[.string s] w fun e' w'=>e' = .returned (.tuple #[rv,.int .i64 rx])∧Below w.heap.size w w':=by
 by_cases hz:s.size=128
 ·obtain ⟨n3,b13⟩:∃ n,(s[13]'(by omega)).toNat=n:=⟨_,rfl⟩
  obtain ⟨n4,b14⟩:∃ n,(s[14]'(by omega)).toNat=n:=⟨_,rfl⟩
  obtain ⟨e3,e4⟩:=n_of s hz n3 n4 b13 b14
  have hl:s.data.toList.length=128:=by rw [← Go.Lib.size_eq]; exact hz
  have hf:=cutR_fits s.data.toList
  by_cases hn:31+n3+n4≤112
  ·have q0:=congrArg Rec.l hR
   have q1:=congrArg Rec.e hR
   have q2:=congrArg Rec.k hR
   have q3:=congrArg Rec.v hR
   have q4:=congrArg Rec.d hR
   have q5:=congrArg Rec.i hR
   have q6:=congrArg Rec.a hR
   simp only [cutR,e3,e4] at q0 q1 q2 q3 q4 q5 q6
   rw [hR] at hf
   have hzi:i.size≤maxLen:=by
    have:=congrArg List.length q5
    rw [List.length_take,List.length_drop,← Go.Lib.size_eq i] at this
    unfold maxLen; omega
   have hza:a.size≤maxLen:=by
    have:=congrArg List.length q6
    rw [List.length_take,List.length_drop,← Go.Lib.size_eq a] at this
    unfold maxLen; omega
   have g2:((s[12]'(by omega)).toNat:Int)=k:=by
    rw [← q2,getN_one _ _ (by omega),R1.byte_get]
   have x4:s.extract 31 (31+n3)=i:=bytes_ext (by rw [ext_mid,show 31+n3-31=n3 by omega]; exact q5)
   have x5:s.extract (31+n3) (31+n3+n4)=a:=bytes_ext (by rw [ext_mid,show 31+n3+n4-(31+n3)=n4 by omega]; exact q6)
   have he:0≤e∧e<4294967296:=⟨hf.e0,hf.e1⟩
   have key:∃ (S:ByteArray) (x:Int),(∀ w,Calls Tryz.prog 147 #[.agg #[.int .u64 l,.int .u32 e,.int .i64 k,.int .u64 v,.int .u64 d,.string i,.string a]] w fun e' w'=>e' = .returned (.tuple #[.string S,.int .i64 x])∧Below w.heap.size w w') ∧
    ((x=0∧S=s∧rv=.agg #[.int .u64 l,.int .u32 e,.int .i64 k,.int .u64 v,.int .u64 d,.string i,.string a]∧rx=0)∨((x=5∨x=0∧(S.toList == s.toList)=false)∧rv=.agg #[.int .u64 0,.int .u32 0,.int .i64 0,.int .u64 0,.int .u64 0,.string ⟨#[]⟩,.string ⟨#[]⟩]∧rx=5)):=by
    rcases hx with ⟨h1,h2,h3⟩ | ⟨h1,h2,h3⟩
    ·obtain ⟨ho,hq⟩:=(isSec_iff _).1 h1
     rw [hR] at ho hq
     exact ⟨s,0,fun w=>encode_yes l e k v d i a s w hf ho hq,.inl ⟨rfl,rfl,h2,h3⟩⟩
    ·cases ho:okR ⟨l,e,k,v,d,i.data.toList,a.data.toList⟩
     ·exact ⟨⟨#[]⟩,5,fun w=>encode_no l e k v d i a w hzi hza ho,.inr ⟨.inl rfl,h2,h3⟩⟩
     ·refine ⟨⟨(secL ⟨l,e,k,v,d,i.data.toList,a.data.toList⟩).toArray⟩,0,fun w=>encode_yes l e k v d i a _ w hf ho (by simp),.inr ⟨.inr ⟨rfl,ne_str ?_⟩,h2,h3⟩⟩
      intro hq
      have:isSec s.data.toList=true:=by
       rw [isSec_iff,hR]; exact ⟨ho,by simpa using hq⟩
      rw [h1] at this; exact absurd this (by decide)
   obtain ⟨S,x,E,hx'⟩:=key
   exact decode_at s l e k v d i a S x n3 n4 w hz b13 b14 hn (Lib.hid (by rw [ext_mid]; exact q0)) (Lib.hid (by rw [ext_mid]; exact q1)) g2 (Lib.hid (by rw [ext_mid]; exact q3)) (Lib.hid (by rw [ext_mid]; exact q4)) x4 x5 he (Lib.hid E) rv rx hx'
  ·rcases hx with ⟨h1,h2,h3⟩ | ⟨h1,rfl,rfl⟩
   ·exact absurd (sec_small s hz n3 n4 b13 b14 ((isSec_iff _).1 h1).1) hn
   ·exact decode_big s n3 n4 w hz b13 b14 (by omega)
 ·rcases hx with ⟨h1,h2,h3⟩ | ⟨h1,rfl,rfl⟩
  ·exact absurd (by have:=isSec_len h1; rw [← Go.Lib.size_eq] at this; exact this) hz
  ·exact decode_len s w hs hz
end R6
end Go.Proofs.YtdpmjlbkojhooaaGreat.Rc
