/- A part. -/
import Derived.Test.YtcnohlgigmmefaaGreatPLwR
import Derived.Deep.DeepCutAuto
namespace Go.Proofs.YtcnohlgigmmefaaGreat.Rc
open Go.RowKit Go.Lib
set_option linter.unusedVariables false
set_option maxRecDepth 100000
open Go.RowKit Go.Lib Wd Cr Ck
set_option linter.unusedVariables false
theorem setE {W:World} {B:Nat} {l e k v d:Int} {i a:ByteArray} (h:LiesR W B l e k v d i a) (x:Int) (hB:True):LiesR (W.setCell ⟨B,0,none⟩ (.int .u64 x)) B x e k v d i a :=
 ⟨by rw [size_setCell]; exact h.lt,World.cell?_setCell_same _ _ _ h.c0,by rw [World.cell?_setCell_other _ _ _ _ (ne_o (by omega))]; exact h.c1,by rw [World.cell?_setCell_other _ _ _ _ (ne_o (by omega))]; exact h.c2,by rw [World.cell?_setCell_other _ _ _ _ (ne_o (by omega))]; exact h.c3,by rw [World.cell?_setCell_other _ _ _ _ (ne_o (by omega))]; exact h.c4,by rw [World.cell?_setCell_other _ _ _ _ (ne_o (by omega))]; exact h.c5,by rw [World.cell?_setCell_other _ _ _ _ (ne_o (by omega))]; exact h.c6⟩
theorem setF {W:World} {B:Nat} {l e k v d:Int} {i a:ByteArray} (h:LiesR W B l e k v d i a) (x:Int) (hB:True):LiesR (W.setCell ⟨B,1,none⟩ (.int .u32 x)) B l x k v d i a :=
 ⟨by rw [size_setCell]; exact h.lt,by rw [World.cell?_setCell_other _ _ _ _ (ne_o (by omega))]; exact h.c0,World.cell?_setCell_same _ _ _ h.c1,by rw [World.cell?_setCell_other _ _ _ _ (ne_o (by omega))]; exact h.c2,by rw [World.cell?_setCell_other _ _ _ _ (ne_o (by omega))]; exact h.c3,by rw [World.cell?_setCell_other _ _ _ _ (ne_o (by omega))]; exact h.c4,by rw [World.cell?_setCell_other _ _ _ _ (ne_o (by omega))]; exact h.c5,by rw [World.cell?_setCell_other _ _ _ _ (ne_o (by omega))]; exact h.c6⟩
theorem zr_set {W:World} {B:Nat} (h:ZR W B) (b o:Nat) (u:Value) (hb:b≠B):ZR (W.setCell ⟨b,o,none⟩ u) B :=
 ⟨liesR_set h.L b o u hb,fun j hj=>by rw [World.frozen?_setCell]; exact h.F j hj⟩
theorem frz (W:World) (o:Obj) (j:Nat) (t:TypeId) (cs:Array Value):(W.alloc (.cells cs t)).frozen? ⟨W.heap.size,j,none⟩=false:=by simp [go_sem]
set_option maxHeartbeats 4000000 in
set_option maxRecDepth 100000 in
theorem next_none (s:ByteArray) (x y:Int) (w:World) (hs:s.size≤140737488355328) (h:isSec s.data.toList=false) :
 Calls Tryz.prog 116 #[.string s,.int .u64 x,.int .u32 y] w fun e' w'=>e' = .returned (.tuple #[.agg #[.int .u64 0,.int .u32 0,.int .i64 0,.int .u64 0,.int .u64 0,.string ⟨#[]⟩,.string ⟨#[]⟩],.bool false])∧Below w.heap.size w w':=by
 have C:=Lib.hid (fun w=>decode_no s w hs h)
 have Z0:=layZ 97 w
 have B0:=below1 w (.cells #[.int .u64 0,.int .u32 0,.int .i64 0,.int .u64 0,.int .u64 0,.string ⟨#[]⟩,.string ⟨#[]⟩] 97)
 clear h
 go_enter Tryz.func116,Tryz.ntmps116
 go_wp2_with fail
 refine (C.out _).mono ?_
 rintro e' w1 ⟨rfl,hb1⟩
 have Z1:=Z0.later hb1
 have B1:=Wd.Ge.trans B0 hb1
 have g1:=Z1.L.lt
 clear Z0 B0 hb1 C
 have Z:=Z1.later (below1 w1 (.cells #[.int .u64 0,.int .u32 0,.int .i64 0,.int .u64 0,.int .u64 0,.string ⟨#[]⟩,.string ⟨#[]⟩] 97))
 have B:=Wd.Ge.trans B1 (below1 w1 (.cells #[.int .u64 0,.int .u32 0,.int .i64 0,.int .u64 0,.int .u64 0,.string ⟨#[]⟩,.string ⟨#[]⟩] 97))
 clear Z1 B1
 go_upto_region 2 with fail
 generalize w1.alloc (.cells #[.int .u64 0,.int .u32 0,.int .i64 0,.int .u64 0,.int .u64 0,.string ⟨#[]⟩,.string ⟨#[]⟩] 97)=w2 at *
 generalize w1.heap.size=b8 at *
 obtain ⟨g',o0,o1,o2,o3,o4,o5,o6⟩:=Z.L
 have z0:=Z.F 0 (by omega)
 have z1:=Z.F 1 (by omega)
 have z2:=Z.F 2 (by omega)
 have z3:=Z.F 3 (by omega)
 have z4:=Z.F 4 (by omega)
 have z5:=Z.F 5 (by omega)
 have z6:=Z.F 6 (by omega)
 have ZZ:=Lib.hid Z
 have BB:=Lib.hid B
 clear Z B
 go_wp2_with fail
 have L:=put7 0 0 0 0 0 ⟨#[]⟩ ⟨#[]⟩ (there_of ZZ.out.L ZZ.out.F) ZZ.out.L.lt
 have HB:=below7 0 0 0 0 0 ⟨#[]⟩ ⟨#[]⟩ BB.out (Nat.le_refl _)
 exact bodyPost_ret (res_rec2 rfl _ _ w.heap.size rfl L) rfl ⟨rfl,HB⟩
set_option maxHeartbeats 4000000 in
set_option maxRecDepth 100000 in
theorem next_yes (s:ByteArray) (l e k v d:Int) (i a:ByteArray) (w:World) (hs:s.size≤140737488355328) (hR:cutR s.data.toList=⟨l,e,k,v,d,i.data.toList,a.data.toList⟩) (h:isSec s.data.toList=true) :
 Calls Tryz.prog 116 #[.string s,.int .u64 l,.int .u32 e] w fun e' w'=>e' = .returned (.tuple #[.agg #[.int .u64 l,.int .u32 e,.int .i64 k,.int .u64 v,.int .u64 d,.string i,.string a],.bool true])∧Below w.heap.size w w':=by
 have C:=Lib.hid (fun w=>decode_yes s l e k v d i a w hs hR h)
 have Z0:=layZ 97 w
 have B0:=below1 w (.cells #[.int .u64 0,.int .u32 0,.int .i64 0,.int .u64 0,.int .u64 0,.string ⟨#[]⟩,.string ⟨#[]⟩] 97)
 clear h hR
 go_enter Tryz.func116,Tryz.ntmps116
 go_wp2_with fail
 refine (C.out _).mono ?_
 rintro e' w1 ⟨rfl,hb1⟩
 have Z1:=Z0.later hb1
 have B1:=Wd.Ge.trans B0 hb1
 have g1:=Z1.L.lt
 clear Z0 B0 hb1 C
 have Z2:=Z1.later (below1 w1 (.cells #[.int .u64 l,.int .u32 e,.int .i64 k,.int .u64 v,.int .u64 d,.string i,.string a] 97))
 have B2:=Wd.Ge.trans B1 (below1 w1 (.cells #[.int .u64 l,.int .u32 e,.int .i64 k,.int .u64 v,.int .u64 d,.string i,.string a] 97))
 have L2:=layR l e k v d i a 97 w1
 clear Z1 B1
 go_upto_region 2 with fail
 generalize w1.alloc (.cells #[.int .u64 l,.int .u32 e,.int .i64 k,.int .u64 v,.int .u64 d,.string i,.string a] 97)=w2 at *
 generalize w1.heap.size=b8 at *
 have L3:=L2.later (below1 w2 (.cells #[.int .u64 l,.int .u32 e,.int .i64 k,.int .u64 v,.int .u64 d,.string i,.string a] 97))
 have M3:=layR l e k v d i a 97 w2
 have Z3:=Z2.later (below1 w2 (.cells #[.int .u64 l,.int .u32 e,.int .i64 k,.int .u64 v,.int .u64 d,.string i,.string a] 97))
 have B3:=Wd.Ge.trans B2 (below1 w2 (.cells #[.int .u64 l,.int .u32 e,.int .i64 k,.int .u64 v,.int .u64 d,.string i,.string a] 97))
 have F0:=frz w2 (.cells #[] 0) 0 97 #[.int .u64 l,.int .u32 e,.int .i64 k,.int .u64 v,.int .u64 d,.string i,.string a]
 have F1:=frz w2 (.cells #[] 0) 1 97 #[.int .u64 l,.int .u32 e,.int .i64 k,.int .u64 v,.int .u64 d,.string i,.string a]
 have g2:=L2.lt
 have g3:=Z2.L.lt
 obtain ⟨g,c0,c1,c2,c3,c4,c5,c6⟩:=L2
 clear Z2 B2
 go_upto_region 5 with fail
 clear c0 c1 c2 c3 c4 c5 c6
 have n1:w2.heap.size≠b8:=by omega
 have n2:w2.heap.size≠w.heap.size:=by omega
 generalize w2.alloc (.cells #[.int .u64 l,.int .u32 e,.int .i64 k,.int .u64 v,.int .u64 d,.string i,.string a] 97)=w3 at *
 have n3:w.heap.size≤w2.heap.size:=by omega
 generalize w2.heap.size=b10 at *
 clear g g2 g3 g1
 have L4:=liesR_set (liesR_set L3 b10 0 (.int .u64 l) n1) b10 1 (.int .u32 e) n1
 have M4:=setF (setE M3 l trivial) e trivial
 have Z:=zr_set (zr_set Z3 b10 0 (.int .u64 l) n2) b10 1 (.int .u32 e) n2
 have B:=(B3.setCell (p:=⟨b10,0,none⟩) n3 (.int .u64 l)).setCell (p:=⟨b10,1,none⟩) n3 (.int .u32 e)
 obtain ⟨g,c0,c1,c2,c3,c4,c5,c6⟩:=M3
 go_upto_region 6 with fail
 clear c0 c1 c2 c3 c4 c5 c6 g F0 F1 L3 Z3 B3
 generalize (w3.setCell ⟨b10,0,none⟩ (.int .u64 l)).setCell ⟨b10,1,none⟩ (.int .u32 e)=w4 at *
 obtain ⟨g,c0,c1,c2,c3,c4,c5,c6⟩:=L4
 obtain ⟨g'',m0,m1,m2,m3,m4,m5,m6⟩:=M4
 obtain ⟨g',o0,o1,o2,o3,o4,o5,o6⟩:=Z.L
 have z0:=Z.F 0 (by omega)
 have z1:=Z.F 1 (by omega)
 have z2:=Z.F 2 (by omega)
 have z3:=Z.F 3 (by omega)
 have z4:=Z.F 4 (by omega)
 have z5:=Z.F 5 (by omega)
 have z6:=Z.F 6 (by omega)
 have ZZ:=Lib.hid Z
 have BB:=Lib.hid B
 clear Z B
 go_wp2_with fail
 have L:=put7 l e k v d i a (there_of ZZ.out.L ZZ.out.F) ZZ.out.L.lt
 have HB:=below7 l e k v d i a BB.out (Nat.le_refl _)
 exact bodyPost_ret (res_rec2 rfl _ _ w.heap.size rfl L) rfl ⟨rfl,HB⟩
set_option maxHeartbeats 4000000 in
set_option maxRecDepth 100000 in
theorem next_not (s:ByteArray) (l e k v d:Int) (i a:ByteArray) (x y:Int) (w:World) (hs:s.size≤140737488355328) (hR:cutR s.data.toList=⟨l,e,k,v,d,i.data.toList,a.data.toList⟩) (h:isSec s.data.toList=true) (hn:¬ (l=x∧e=y)) :
 Calls Tryz.prog 116 #[.string s,.int .u64 x,.int .u32 y] w fun e' w'=>e' = .returned (.tuple #[.agg #[.int .u64 0,.int .u32 0,.int .i64 0,.int .u64 0,.int .u64 0,.string ⟨#[]⟩,.string ⟨#[]⟩],.bool false])∧Below w.heap.size w w':=by
 have C:=Lib.hid (fun w=>decode_yes s l e k v d i a w hs hR h)
 have Z0:=layZ 97 w
 have B0:=below1 w (.cells #[.int .u64 0,.int .u32 0,.int .i64 0,.int .u64 0,.int .u64 0,.string ⟨#[]⟩,.string ⟨#[]⟩] 97)
 clear h hR
 go_enter Tryz.func116,Tryz.ntmps116
 go_wp2_with fail
 refine (C.out _).mono ?_
 rintro e' w1 ⟨rfl,hb1⟩
 have Z1:=Z0.later hb1
 have B1:=Wd.Ge.trans B0 hb1
 have g1:=Z1.L.lt
 clear Z0 B0 hb1 C
 have Z2:=Z1.later (below1 w1 (.cells #[.int .u64 l,.int .u32 e,.int .i64 k,.int .u64 v,.int .u64 d,.string i,.string a] 97))
 have B2:=Wd.Ge.trans B1 (below1 w1 (.cells #[.int .u64 l,.int .u32 e,.int .i64 k,.int .u64 v,.int .u64 d,.string i,.string a] 97))
 have L2:=layR l e k v d i a 97 w1
 clear Z1 B1
 go_upto_region 2 with fail
 generalize w1.alloc (.cells #[.int .u64 l,.int .u32 e,.int .i64 k,.int .u64 v,.int .u64 d,.string i,.string a] 97)=w2 at *
 generalize w1.heap.size=b8 at *
 have L3:=L2.later (below1 w2 (.cells #[.int .u64 l,.int .u32 e,.int .i64 k,.int .u64 v,.int .u64 d,.string i,.string a] 97))
 have M3:=layR l e k v d i a 97 w2
 have Z3:=Z2.later (below1 w2 (.cells #[.int .u64 l,.int .u32 e,.int .i64 k,.int .u64 v,.int .u64 d,.string i,.string a] 97))
 have B3:=Wd.Ge.trans B2 (below1 w2 (.cells #[.int .u64 l,.int .u32 e,.int .i64 k,.int .u64 v,.int .u64 d,.string i,.string a] 97))
 have F0:=frz w2 (.cells #[] 0) 0 97 #[.int .u64 l,.int .u32 e,.int .i64 k,.int .u64 v,.int .u64 d,.string i,.string a]
 have F1:=frz w2 (.cells #[] 0) 1 97 #[.int .u64 l,.int .u32 e,.int .i64 k,.int .u64 v,.int .u64 d,.string i,.string a]
 have g2:=L2.lt
 have g3:=Z2.L.lt
 obtain ⟨g,c0,c1,c2,c3,c4,c5,c6⟩:=L2
 clear Z2 B2
 go_upto_region 5 with fail
 clear c0 c1 c2 c3 c4 c5 c6
 have n1:w2.heap.size≠b8:=by omega
 have n2:w2.heap.size≠w.heap.size:=by omega
 generalize w2.alloc (.cells #[.int .u64 l,.int .u32 e,.int .i64 k,.int .u64 v,.int .u64 d,.string i,.string a] 97)=w3 at *
 have n3:w.heap.size≤w2.heap.size:=by omega
 generalize w2.heap.size=b10 at *
 clear g g2 g3 g1
 have L4:=liesR_set (liesR_set L3 b10 0 (.int .u64 x) n1) b10 1 (.int .u32 y) n1
 have M4:=setF (setE M3 x trivial) y trivial
 have Z:=zr_set (zr_set Z3 b10 0 (.int .u64 x) n2) b10 1 (.int .u32 y) n2
 have B:=(B3.setCell (p:=⟨b10,0,none⟩) n3 (.int .u64 x)).setCell (p:=⟨b10,1,none⟩) n3 (.int .u32 y)
 obtain ⟨g,c0,c1,c2,c3,c4,c5,c6⟩:=M3
 go_upto_region 6 with fail
 clear c0 c1 c2 c3 c4 c5 c6 g F0 F1 L3 Z3 B3
 generalize (w3.setCell ⟨b10,0,none⟩ (.int .u64 x)).setCell ⟨b10,1,none⟩ (.int .u32 y)=w4 at *
 obtain ⟨g,c0,c1,c2,c3,c4,c5,c6⟩:=L4
 obtain ⟨g'',m0,m1,m2,m3,m4,m5,m6⟩:=M4
 by_cases hl:l=x
 ·have he:¬ e=y:=fun q=>hn ⟨hl,q⟩
  subst hl
  clear hn
  obtain ⟨g',o0,o1,o2,o3,o4,o5,o6⟩:=Z.L
  have z0:=Z.F 0 (by omega)
  have z1:=Z.F 1 (by omega)
  have z2:=Z.F 2 (by omega)
  have z3:=Z.F 3 (by omega)
  have z4:=Z.F 4 (by omega)
  have z5:=Z.F 5 (by omega)
  have z6:=Z.F 6 (by omega)
  have ZZ:=Lib.hid Z
  have BB:=Lib.hid B
  clear Z B
  go_wp2_with fail
  have L:=put7 0 0 0 0 0 ⟨#[]⟩ ⟨#[]⟩ (there_of ZZ.out.L ZZ.out.F) ZZ.out.L.lt
  have HB:=below7 0 0 0 0 0 ⟨#[]⟩ ⟨#[]⟩ BB.out (Nat.le_refl _)
  exact bodyPost_ret (res_rec2 rfl _ _ w.heap.size rfl L) rfl ⟨rfl,HB⟩
 ·clear hn
  obtain ⟨g',o0,o1,o2,o3,o4,o5,o6⟩:=Z.L
  have z0:=Z.F 0 (by omega)
  have z1:=Z.F 1 (by omega)
  have z2:=Z.F 2 (by omega)
  have z3:=Z.F 3 (by omega)
  have z4:=Z.F 4 (by omega)
  have z5:=Z.F 5 (by omega)
  have z6:=Z.F 6 (by omega)
  have ZZ:=Lib.hid Z
  have BB:=Lib.hid B
  clear Z B
  go_wp2_with fail
  have L:=put7 0 0 0 0 0 ⟨#[]⟩ ⟨#[]⟩ (there_of ZZ.out.L ZZ.out.F) ZZ.out.L.lt
  have HB:=below7 0 0 0 0 0 ⟨#[]⟩ ⟨#[]⟩ BB.out (Nat.le_refl _)
  exact bodyPost_ret (res_rec2 rfl _ _ w.heap.size rfl L) rfl ⟨rfl,HB⟩
open Go.RowKit Go.Lib Wd Cr Ck
set_option linter.unusedVariables false
open Go.RowKit Go.Lib Wd Cr Ck
set_option linter.unusedVariables false
structure FR (W:World) (B:Nat) (l e k v d:Int) (i a:ByteArray):Prop where
 L:LiesR W B l e k v d i a
 F:∀ j,j<7→W.frozen? ⟨B,j,none⟩=false
theorem FR.later {W w:World} {B:Nat} {l e k v d:Int} {i a:ByteArray} (h:FR W B l e k v d i a) (hb:Below W.heap.size W w):FR w B l e k v d i a :=
 ⟨h.L.later hb,fun j hj=>((bcell hb).2 _ _ h.L.lt).trans (h.F j hj)⟩
theorem frz7 {W:World} {B:Nat} (l e k v d:Int) (i a:ByteArray) {j:Nat} {b:Nat}:((((((((W.setCell ⟨B,0,none⟩ (.int .u64 l)).setCell ⟨B,1,none⟩ (.int .u32 e)).setCell ⟨B,2,none⟩ (.int .i64 k)).setCell ⟨B,3,none⟩ (.int .u64 v)).setCell ⟨B,4,none⟩ (.int .u64 d)).setCell ⟨B,5,none⟩ (.string i)).setCell ⟨B,6,none⟩ (.string a))).frozen? ⟨b,j,none⟩=W.frozen? ⟨b,j,none⟩:=by
 simp only [World.frozen?_setCell]
theorem size7 {W:World} {B:Nat} (l e k v d:Int) (i a:ByteArray):((((((((W.setCell ⟨B,0,none⟩ (.int .u64 l)).setCell ⟨B,1,none⟩ (.int .u32 e)).setCell ⟨B,2,none⟩ (.int .i64 k)).setCell ⟨B,3,none⟩ (.int .u64 v)).setCell ⟨B,4,none⟩ (.int .u64 d)).setCell ⟨B,5,none⟩ (.string i)).setCell ⟨B,6,none⟩ (.string a))).heap.size=W.heap.size:=by simp only [size_setCell]
theorem FR.put {W:World} {B:Nat} {l e k v d l' e' k' v' d' : Int} {i a i' a' : ByteArray} (h:FR W B l' e' k' v' d' i' a'):FR ((((((((W.setCell ⟨B,0,none⟩ (.int .u64 l)).setCell ⟨B,1,none⟩ (.int .u32 e)).setCell ⟨B,2,none⟩ (.int .i64 k)).setCell ⟨B,3,none⟩ (.int .u64 v)).setCell ⟨B,4,none⟩ (.int .u64 d)).setCell ⟨B,5,none⟩ (.string i)).setCell ⟨B,6,none⟩ (.string a))) B l e k v d i a :=
 ⟨put7 l e k v d i a (there_of h.L h.F) h.L.lt,fun j hj=>by rw [frz7]; exact h.F j hj⟩
theorem FR.away {W:World} {B b:Nat} {l e k v d l' e' k' v' d' : Int} {i a i' a' : ByteArray} (h:FR W b l' e' k' v' d' i' a') (hb:B≠b):FR ((((((((W.setCell ⟨B,0,none⟩ (.int .u64 l)).setCell ⟨B,1,none⟩ (.int .u32 e)).setCell ⟨B,2,none⟩ (.int .i64 k)).setCell ⟨B,3,none⟩ (.int .u64 v)).setCell ⟨B,4,none⟩ (.int .u64 d)).setCell ⟨B,5,none⟩ (.string i)).setCell ⟨B,6,none⟩ (.string a))) b l' e' k' v' d' i' a' :=
 ⟨liesR_set (liesR_set (liesR_set (liesR_set (liesR_set (liesR_set (liesR_set h.L _ _ _ hb) _ _ _ hb) _ _ _ hb) _ _ _ hb) _ _ _ hb) _ _ _ hb) _ _ _ hb,fun j hj=>by rw [frz7]; exact h.F j hj⟩
open Go.RowKit Go.Lib Wd Cr Ck
set_option linter.unusedVariables false
section
variable {l e k v d:Int} {i a S:ByteArray}
end
open Go.RowKit Go.Lib Wd Cr Ck
set_option linter.unusedVariables false
namespace R6
end R6
open Go.RowKit Go.Lib Wd Cr Ck
set_option linter.unusedVariables false
namespace R6
end R6
open Go.RowKit Go.Lib Wd Cr Ck
set_option linter.unusedVariables false
structure DecC (w:World) (H:Nat) (listed:Array Bool) (W:World):Prop where
 b:Below w.heap.size w W
 z:ZR W w.heap.size
 n:w.heap.size<H
 sz:listed.getD 29 false=false→W.heap.size=H
theorem DecC.set {w W:World} {H i:Nat} {listed:Array Bool} (h:DecC w H listed W) (hi:i≠29):DecC w H (listed.setIfInBounds i true) W :=
 ⟨h.b,h.z,h.n,fun hl=>h.sz (by rw [← getD_set_ne false hi]; exact hl)⟩
theorem DecC.alloc {w W:World} {H:Nat} {listed:Array Bool} (h:DecC w H listed W) (cs:Array Value) (t:TypeId) (hs:W.heap.size=H) (hlt:29<listed.size):DecC w H (listed.setIfInBounds 29 true) (W.alloc (.cells cs t)) :=
 ⟨Wd.Ge.trans h.b (below1 _ _),h.z.later (below1 _ _),h.n,fun hl=>by simp [hlt] at hl⟩
theorem DecC.store {w W:World} {H:Nat} {listed:Array Bool} {l e k v d l' e' k' v' d' : Int} {i a i' a' : ByteArray} (h:DecC w H listed W) (G:FR W H l' e' k' v' d' i' a') :
 DecC w H (listed.setIfInBounds 30 true) ((((((((W.setCell ⟨H,0,none⟩ (.int .u64 l)).setCell ⟨H,1,none⟩ (.int .u32 e)).setCell ⟨H,2,none⟩ (.int .i64 k)).setCell ⟨H,3,none⟩ (.int .u64 v)).setCell ⟨H,4,none⟩ (.int .u64 d)).setCell ⟨H,5,none⟩ (.string i)).setCell ⟨H,6,none⟩ (.string a))) :=
 have hz:FR W w.heap.size 0 0 0 0 0 ⟨#[]⟩ ⟨#[]⟩:=⟨h.z.L,h.z.F⟩
 have hn:=h.n
 have hz':=hz.away (B:=H) (l:=l) (e:=e) (k:=k) (v:=v) (d:=d) (i:=i) (a:=a) (by omega)
 ⟨below7 l e k v d i a h.b (Nat.le_of_lt h.n),⟨hz'.L,hz'.F⟩,h.n,fun hl=>by rw [size7]; exact h.sz (by rw [← getD_set_ne false (show 30≠29 by decide)]; exact hl)⟩
structure DZ (w W:World):Prop where
 b:Below w.heap.size w W
 z:ZR W w.heap.size
theorem DZ.drawn {w W:World} (h:DZ w W):DZ w { W with drawn:=W.drawn+1 } :=
 ⟨⟨h.b.os,h.b.tape,h.b.output,h.b.size,h.b.block⟩,⟨⟨h.z.L.lt,h.z.L.c0,h.z.L.c1,h.z.L.c2,h.z.L.c3,h.z.L.c4,h.z.L.c5,h.z.L.c6⟩,h.z.F⟩⟩
namespace R6
end R6
open Go.RowKit Go.Lib Wd Cr Ck
set_option linter.unusedVariables false
namespace R6
end R6
end Go.Proofs.YtcnohlgigmmefaaGreat.Rc
