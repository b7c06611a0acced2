/- A part. -/
import Derived.Test.YtcnohlgigmmefaaGreatPLwT
import Derived.Deep.AppendLies
import Derived.Lib.SliceRun
import Derived.Deep.RegionLaw
import Derived.IntWalk
namespace Go.Proofs.YtcnohlgigmmefaaGreat.Tb
open Go.RowKit Go.Lib
set_option linter.unusedVariables false
set_option maxRecDepth 100000
open Go.RowKit Go.Lib
set_option linter.unusedVariables false
theorem iv_set (κ:IntKind) (l:List Int) (i:Nat) (x:Int):(iv κ l).set i (.int κ x)=iv κ (l.set i x):=by unfold iv; rw [List.map_set]
theorem Rows3.put {W:World} {base:Nat} {A:Option Addr} {m p g k q:Nat} {C:Option Addr} {n r:Nat} {o l f:List Int} (h:Rows3 base A m p (some ⟨g,0,none⟩) k q C n r o l f W) (i:Nat) (x:Int) :
 Rows3 base A m p (some ⟨g,0,none⟩) k q C n r o (l.set i x) f (W.setCell ⟨g,i,none⟩ (.int .i64 x)):=by
 have gs:=grown_set W g i (.int .i64 x)
 refine ⟨?_,?_,?_,h.ab⟩
 ·refine h.a.kept gs ?_
  rw [ob_eq]
  cases hq:ob A with
  | none=>exact .inl rfl
  | some j=>exact .inr (fun e=>h.ab j hq e.symm)
 ·have:=(h.b.stored i (.int .i64 x)).1
  rw [iv_set] at this
  exact this
 ·refine h.c.kept gs ?_
  cases hq:(Value.slice C n r).ownBlock with
  | none=>exact .inl rfl
  | some j=>exact .inr (fun e=>own_ne h.b h.c (by decide) j (by rw [ob_eq]; exact e.symm) hq)
theorem own_some {W:World} {base:Nat} {e:TypeId} {A:Option Addr} {m p:Nat} {xs:List Value} (h:W.ownsRow base e 1 (.slice A m p) m xs) (hm:0<m):∃ g,A=some ⟨g,0,none⟩∧base≤g∧g<W.heap.size:=by
 obtain ⟨g,cap,hv,h1,h2⟩:=h.form hm
 injection hv with hv
 exact ⟨g,hv,h1,h2⟩
set_option maxHeartbeats 8000000 in
theorem count_any (sg st:Int) (A:Option Addr) (m p:Nat) (B:Option Addr) (k q:Nat) (C:Option Addr) (n r:Nat) (o l f:List Int) (w:World) (h:TIn w A m B k C n o l f) (hok:okP ⟨sg,st,o,l,f⟩) :
 Calls Tryz.prog 117 #[.agg #[.int .i64 sg,.int .i64 st,.slice A m p,.slice B k q,.slice C n r]] w (ResP (tabOf (countT ⟨sg,st,o,l,f⟩)) (errOf (countT ⟨sg,st,o,l,f⟩) 10) w):=by
 obtain ⟨⟨hfa,hfb,hfc⟩,hm,hk,hn,hml,hkl,hnl⟩:=ok_full hok h
 subst hk
 have hn2:n≤1000:=by omega
 clear hn
 have hk2:k≤1000:=by omega
 have hsl:k=l.length:=h.b.len
 have hlast:=hok.2.2.2.2.2.1 _ (last_mem (l:=l) (by omega))
 simp only at hlast
 have h2:=hok.2.1
 simp only at h2
 obtain ⟨bb,off,rfl,hbb,hc⟩:=last_cell h.b (by omega)
 obtain ⟨z,HZ⟩:∃ z,Hid (lastN l=z):=⟨_,Lib.hid rfl⟩
 rw [HZ.out] at hlast hc
 obtain ⟨i,Hi⟩:∃ i,Hid (k-1=i):=⟨_,Lib.hid rfl⟩
 rw [Hi.out] at hc
 have hik:i<k:=by have:=Hi.out; omega
 have hiki:(i:Int)<(k:Int):=by omega
 have B0:Below w.heap.size w ((w.alloc (.cells #[.int .i64 sg,.int .i64 st,.slice A k p,.slice (some ⟨bb,off,none⟩) k q,.slice C n r] 45)).alloc (.cells #[.int .i64 0,.int .i64 0,.slice none 0 0,.slice none 0 0,.slice none 0 0] 45)):=Ge.trans (below1 _ _) (below1 _ _)
 have K0:Blk ((w.alloc (.cells #[.int .i64 sg,.int .i64 st,.slice A k p,.slice (some ⟨bb,off,none⟩) k q,.slice C n r] 45)).alloc (.cells #[.int .i64 0,.int .i64 0,.slice none 0 0,.slice none 0 0,.slice none 0 0] 45)) w.heap.size 45 (csT sg st A k p (some ⟨bb,off,none⟩) k q C n r):=(Blk.new w _ _).later (below1 _ _)
 have Z0:Blk ((w.alloc (.cells #[.int .i64 sg,.int .i64 st,.slice A k p,.slice (some ⟨bb,off,none⟩) k q,.slice C n r] 45)).alloc (.cells #[.int .i64 0,.int .i64 0,.slice none 0 0,.slice none 0 0,.slice none 0 0] 45)) (w.heap.size+1) 45 (csT 0 0 none 0 0 none 0 0 none 0 0):=Blk.at_ _ _ _ (by simp)
 have hv:=Tryz.zeroValue45
 have I:Its w [(w.heap.size,45,csT sg st A k p (some ⟨bb,off,none⟩) k q C n r),(w.heap.size+1,45,csT 0 0 none 0 0 none 0 0 none 0 0)] [] ((w.alloc (.cells #[.int .i64 sg,.int .i64 st,.slice A k p,.slice (some ⟨bb,off,none⟩) k q,.slice C n r] 45)).alloc (.cells #[.int .i64 0,.int .i64 0,.slice none 0 0,.slice none 0 0,.slice none 0 0] 45)):=((Its.nil B0).cons Z0).cons K0
 have hne:Nonempty (In (Its w [(w.heap.size,45,csT sg st A k p (some ⟨bb,off,none⟩) k q C n r),(w.heap.size+1,45,csT 0 0 none 0 0 none 0 0 none 0 0)] [])):=⟨⟨_,I⟩⟩
 have f0:∀ j:In (Its w [(w.heap.size,45,csT sg st A k p (some ⟨bb,off,none⟩) k q C n r),(w.heap.size+1,45,csT 0 0 none 0 0 none 0 0 none 0 0)] []),j.W.cell? ⟨w.heap.size,0,none⟩=some (.int .i64 sg):=fun j=>(j.h.at_ 0 rfl).cell 0
 have f1:∀ j:In (Its w [(w.heap.size,45,csT sg st A k p (some ⟨bb,off,none⟩) k q C n r),(w.heap.size+1,45,csT 0 0 none 0 0 none 0 0 none 0 0)] []),j.W.cell? ⟨w.heap.size,1,none⟩=some (.int .i64 st):=fun j=>(j.h.at_ 0 rfl).cell 1
 have f2:∀ j:In (Its w [(w.heap.size,45,csT sg st A k p (some ⟨bb,off,none⟩) k q C n r),(w.heap.size+1,45,csT 0 0 none 0 0 none 0 0 none 0 0)] []),j.W.cell? ⟨w.heap.size,2,none⟩=some (.slice A k p):=fun j=>(j.h.at_ 0 rfl).cell 2
 have f3:∀ j:In (Its w [(w.heap.size,45,csT sg st A k p (some ⟨bb,off,none⟩) k q C n r),(w.heap.size+1,45,csT 0 0 none 0 0 none 0 0 none 0 0)] []),j.W.cell? ⟨w.heap.size,3,none⟩=some (.slice (some ⟨bb,off,none⟩) k q):=fun j=>(j.h.at_ 0 rfl).cell 3
 have f4:∀ j:In (Its w [(w.heap.size,45,csT sg st A k p (some ⟨bb,off,none⟩) k q C n r),(w.heap.size+1,45,csT 0 0 none 0 0 none 0 0 none 0 0)] []),j.W.cell? ⟨w.heap.size,4,none⟩=some (.slice C n r):=fun j=>(j.h.at_ 0 rfl).cell 4
 have fe:∀ j:In (Its w [(w.heap.size,45,csT sg st A k p (some ⟨bb,off,none⟩) k q C n r),(w.heap.size+1,45,csT 0 0 none 0 0 none 0 0 none 0 0)] []),j.W.cell? ⟨bb,off+i,none⟩=some (.int .i64 z):=fun j=>((bcell j.h.b).1 bb (off+i) hbb).trans hc
 have II:=Lib.hid I
 have HT:=Lib.hid h
 have Q:Hid (∀ W:World,Its w [(w.heap.size,45,csT sg st A k p (some ⟨bb,off,none⟩) k q C n r),(w.heap.size+1,45,csT 0 0 none 0 0 none 0 0 none 0 0)] [] W→Calls Tryz.prog 132 #[.agg #[.int .i64 sg,.int .i64 st,.slice A k p,.slice (some ⟨bb,off,none⟩) k q,.slice C n r]] W fun e w'=>e=.returned (.int .i64 (i:Int))∧Below W.heap.size W w'):=Lib.hid (fun W _=>open_is sg st A k p (some ⟨bb,off,none⟩) k q C n r (i:Int) W hml (by have:=Hi.out; omega))
 clear I hc h B0 K0 Z0
 by_cases hz:z=st
 ·have HR:Hid (countT ⟨sg,st,o,l,f⟩=none):=Lib.hid (by unfold countT; simp only; rw [HZ.out,if_pos hz])
  rw [HR.out]
  simp only [tabOf,errOf,Option.getD]
  subst hz
  have hqz:(z == z)=true:=by simp
  clear hok hlast h2 hsl HR HT HZ
  go_enter Tryz.func117,Tryz.ntmps117
  go_wp2_with fail
  refine region_class (Its w [(w.heap.size,45,csT sg z A k p (some ⟨bb,off,none⟩) k q C n r),(w.heap.size+1,45,csT 0 0 none 0 0 none 0 0 none 0 0)] []) (by kernel_rfl) (by kernel_rfl) II.out.drawn ?_
  repeat (go_big_quiet_step ((go_at_call 132; with_reducible exact class_call _ (fun hi=>its_ge hi (Q.out _ hi)))))
  refine wpQuiet_nil ?_
  rintro _ ⟨j,rfl⟩
  have Z1:Hid (Blk j.W (w.heap.size+1) 45 (csT 0 0 none 0 0 none 0 0 none 0 0)):=Lib.hid (j.h.at_ 1 rfl)
  have B1:=Lib.hid j.h.b
  go_wp2_with (with_reducible refine store_t rfl (.tmp 2) (.tmp 13) rfl (w.heap.size+1) rfl rfl Z1.out ?_)
  exact bodyPost_ret (res_t2 (y:=.int .i64 10) rfl _ _ (w.heap.size+1) rfl rfl (Z1.out.row _)) rfl (zero_res 10 w _ (below_row B1.out (by omega) _))
 ·have HR:Hid (countT ⟨sg,st,o,l,f⟩=some ⟨sg,st,o,l.set i (z+1),f⟩):=Lib.hid (by
   unfold countT countedT; simp only; rw [HZ.out,if_neg hz,← hsl,Hi.out])
  rw [HR.out]
  simp only [tabOf,errOf,Option.getD]
  have hqz:(z == st)=false:=by simp [hz]
  have z0:0≤z:=hlast.1
  have z1:z≤30:=by omega
  have HN:Hid (nth l i=z):=Lib.hid (by rw [← HZ.out]; unfold lastN; rw [← hsl,Hi.out])
  have SL:=Lib.hid hsl
  clear hok hlast h2 hsl HR HZ hz
  go_enter Tryz.func117,Tryz.ntmps117
  go_wp2_with fail
  refine region_class (Its w [(w.heap.size,45,csT sg st A k p (some ⟨bb,off,none⟩) k q C n r),(w.heap.size+1,45,csT 0 0 none 0 0 none 0 0 none 0 0)] []) (by kernel_rfl) (by kernel_rfl) II.out.drawn ?_
  repeat (go_big_quiet_step ((go_at_call 132; with_reducible exact class_call _ (fun hi=>its_ge hi (Q.out _ hi)))))
  refine wpQuiet_nil ?_
  rintro _ ⟨j,rfl⟩
  have Z1:Blk j.W (w.heap.size+1) 45 (csT 0 0 none 0 0 none 0 0 none 0 0):=j.h.at_ 1 rfl
  have K1:Hid (Blk j.W w.heap.size 45 (csT sg st A k p (some ⟨bb,off,none⟩) k q C n r)):=Lib.hid (j.h.at_ 0 rfl)
  have B1:=j.h.b
  have C1:=Lib.hid (copied_any sg st A k p (some ⟨bb,off,none⟩) k q C n r o l f j.W (HT.out.later B1) hfa hfb hfc hk2 hk2 hn2)
  have sz1:w.heap.size+2≤j.W.heap.size:=by have:=Z1.lt; omega
  clear f0 f1 f2 f3 f4 fe hne II Q HT
  go_wp2_with (with_reducible refine load_t rfl (.tmp 1) rfl w.heap.size rfl K1.out ?_)
  refine C1.out.mono ?_
  rintro e' w2 ⟨A1,p1,B1',q1,D1,r1,rfl,R1,b1⟩
  have K2:=Lib.hid (K1.out.later b1)
  have Z2:=Z1.later b1
  have B2:=Ge.trans B1 b1
  obtain ⟨g1,rfl,hg1,hg2⟩:=own_some R1.b (by omega)
  have R2:=R1.wide sz1
  have hgg:w.heap.size+2≤g1:=by omega
  clear C1 Z1 B1 b1 R1 K1 sz1 hg1
  go_upto_region 4 with (with_reducible refine store_t rfl (.tmp 1) (.tmp 15) rfl w.heap.size rfl rfl K2.out ?_)
  have K4:Blk (w2.setRow w.heap.size (csT sg st A1 k p1 (some ⟨g1,0,none⟩) k q1 D1 n r1)) w.heap.size 45 (csT sg st A1 k p1 (some ⟨g1,0,none⟩) k q1 D1 n r1):=K2.out.row _
  have Z4:Blk (w2.setRow w.heap.size (csT sg st A1 k p1 (some ⟨g1,0,none⟩) k q1 D1 n r1)) (w.heap.size+1) 45 (csT 0 0 none 0 0 none 0 0 none 0 0):=Z2.far (by omega) _
  have B4:Below w.heap.size w (w2.setRow w.heap.size (csT sg st A1 k p1 (some ⟨g1,0,none⟩) k q1 D1 n r1)):=below_row B2 (Nat.le_refl _) _
  have R4:Rows3 (w.heap.size+2) A1 k p1 (some ⟨g1,0,none⟩) k q1 D1 n r1 o l f (w2.setRow w.heap.size (csT sg st A1 k p1 (some ⟨g1,0,none⟩) k q1 D1 n r1)):=R2.row (by omega)
  have hg4:g1<(w2.setRow w.heap.size (csT sg st A1 k p1 (some ⟨g1,0,none⟩) k q1 D1 n r1)).heap.size:=by rw [row_size]; exact hg2
  clear K2 Z2 B2 R2 hg2
  generalize w2.setRow w.heap.size (csT sg st A1 k p1 (some ⟨g1,0,none⟩) k q1 D1 n r1)=W4 at *
  have ke:W4.cell? ⟨g1,i,none⟩=some (.int .i64 z):=by
   have:=R4.b.cellAt i (by omega)
   rw [iv_at .i64 (by rw [← SL.out]; exact hik),HN.out] at this
   exact this
  have kf:W4.frozen? ⟨g1,i,none⟩=false:=R4.b.frozenAt i
  have k0:W4.cell? ⟨w.heap.size,0,none⟩=some (.int .i64 sg):=K4.cell 0
  have k1:W4.cell? ⟨w.heap.size,1,none⟩=some (.int .i64 st):=K4.cell 1
  have k2:W4.cell? ⟨w.heap.size,2,none⟩=some (.slice A1 k p1):=K4.cell 2
  have k3:W4.cell? ⟨w.heap.size,3,none⟩=some (.slice (some ⟨g1,0,none⟩) k q1):=K4.cell 3
  have k4:W4.cell? ⟨w.heap.size,4,none⟩=some (.slice D1 n r1):=K4.cell 4
  have HBB:=Lib.hid B4
  have HR4:=Lib.hid R4
  have HK4:=Lib.hid K4
  have HZ4:=Lib.hid Z4
  have hwb:w.heap.size<W4.heap.size:=K4.lt
  have O1:Hid (∀ W,Calls Tryz.prog 132 #[.agg #[.int .i64 sg,.int .i64 st,.slice A1 k p1,.slice (some ⟨g1,0,none⟩) k q1,.slice D1 n r1]] W fun e w'=>e=.returned (.int .i64 (i:Int))∧Below W.heap.size W w'):=Lib.hid (fun W=>open_is sg st A1 k p1 (some ⟨g1,0,none⟩) k q1 D1 n r1 (i:Int) W hml (by have:=Hi.out; omega))
  clear B4 R4 K4 Z4
  have key:Hid (∀ W W5:World,W.heap=W4.heap→Below W.heap.size W W5→W5.cell? ⟨g1,i,none⟩=some (.int .i64 z)∧W5.frozen? ⟨g1,i,none⟩=false∧W5.cell? ⟨w.heap.size,0,none⟩=some (.int .i64 sg)∧W5.cell? ⟨w.heap.size,1,none⟩=some (.int .i64 st)∧W5.cell? ⟨w.heap.size,2,none⟩=some (.slice A1 k p1)∧W5.cell? ⟨w.heap.size,3,none⟩=some (.slice (some ⟨g1,0,none⟩) k q1)∧W5.cell? ⟨w.heap.size,4,none⟩=some (.slice D1 n r1)):=Lib.hid (fun W W5 hh hb=>by
   have e:∀ b o v,W4.cell? ⟨b,o,none⟩=some v→b<W4.heap.size→W5.cell? ⟨b,o,none⟩=some v:=fun b o v hv hlt=>(hb.cell (p:=⟨b,o,none⟩) (by rw [hh]; exact hlt)).trans ((World.cell?_of_block (w:=W4) (w':=W) (by rw [hh])).trans hv)
   exact ⟨e _ _ _ ke hg4,(hb.frozen (p:=⟨g1,i,none⟩) (by rw [hh]; exact hg4)).trans ((World.frozen?_of_block (w:=W4) (w':=W) (by rw [hh])).trans kf),e _ _ _ k0 hwb,e _ _ _ k1 hwb,e _ _ _ k2 hwb,e _ _ _ k3 hwb,e _ _ _ k4 hwb⟩)
  go_region_with ((go_at_call 132; refine (O1.out _).mono ?_; rintro e w5 ⟨rfl,hb⟩; obtain ⟨e1,e2,e3,e4,e5,e6,e7⟩:=key.out W4.drew w5 rfl hb; have HB5:=Lib.hid hb; clear hb))
  all_goals
   rw [show IntKind.i64.wrap (z+1)=z+1 from IntWalk.i64_in _ (by omega)]
   have b5:=Ge.trans (below_drawn W4) HB5.out
   have R5:=(HR4.out.later b5).put i (z+1)
   have K5:Blk (w5.setCell ⟨g1,i,none⟩ (.int .i64 (z+1))) w.heap.size 45 (csT sg st A1 k p1 (some ⟨g1,0,none⟩) k q1 D1 n r1):=blk_far (HK4.out.later b5) (by omega)
   have Z5:Blk (w5.setCell ⟨g1,i,none⟩ (.int .i64 (z+1))) (w.heap.size+1) 45 (csT 0 0 none 0 0 none 0 0 none 0 0):=blk_far (HZ4.out.later b5) (by omega)
   have B5:Below w.heap.size w (w5.setCell ⟨g1,i,none⟩ (.int .i64 (z+1))):=Below.setCell (p:=⟨g1,i,none⟩) (Ge.trans HBB.out b5) (by show w.heap.size≤g1; omega) _
   clear e1 e2 e3 e4 e5 e6 e7 HB5 b5
   generalize w5.setCell ⟨g1,i,none⟩ (.int .i64 (z+1))=W6 at *
   have HK6:=Lib.hid K5
   have HZ6:=Lib.hid Z5
   have HB6:=Lib.hid B5
   have HR6:=Lib.hid R5
   clear K5 Z5 B5 R5 key O1 HR4 HK4 HZ4 HBB k0 k1 k2 k3 k4 ke kf
   go_wp2_with (first
    | (with_reducible refine load_t rfl (.tmp 1) rfl w.heap.size rfl HK6.out ?_)
    | (with_reducible refine store_t rfl (.tmp 2) (.tmp 24) rfl (w.heap.size+1) rfl rfl HZ6.out ?_))
   have R7:=HR6.out.row (b:=w.heap.size+1) (cs:=csT sg st A1 k p1 (some ⟨g1,0,none⟩) k q1 D1 n r1) (by omega)
   exact bodyPost_ret (res_t2 (y:=.int .i64 0) rfl _ _ (w.heap.size+1) rfl rfl (HZ6.out.row _)) rfl ⟨A1,k,p1,some ⟨g1,0,none⟩,k,q1,D1,n,r1,rfl,R7.tin,own_cap R7.a,(R7.wide (by omega)).fresh,below_row HB6.out (by omega) _⟩
open Go.RowKit Go.Lib
set_option linter.unusedVariables false
theorem own_head {w:World} {base:Nat} {e:TypeId} {κ:IntKind} {g m p i:Nat} {l:List Int} (h:w.ownsRow base e 1 (.slice (some ⟨g,0,none⟩) m p) m (iv κ l)) (hi:i≤m):w.ownsRow base e 1 (.slice (some ⟨g,0,none⟩) i p) i (iv κ (l.take i)):=by
 have hl:m=l.length:=by have:=h.1; rw [iv_len] at this; omega
 rcases h.2 with ⟨h0,_⟩ | ⟨g',cap,cur,he,hb,hg,hc,hcm,hcs,ht⟩
 ·cases h0
 ·injection he with he1 he2 he3
  injection he1 with he1
  injection he1 with he1
  subst he1 he3
  refine ⟨by rw [iv_len,List.length_take]; omega,.inr ⟨g,p,cur,rfl,hb,hg,by omega,hcm,hcs,?_⟩⟩
  rw [Nat.mul_one] at ht ⊢
  unfold iv at ht ⊢
  rw [List.map_take,← ht,List.take_take,Nat.min_eq_left hi]
theorem own_room {w:World} {base:Nat} {e:TypeId} {g m p:Nat} {xs:List Value} (h:w.ownsRow base e 1 (.slice (some ⟨g,0,none⟩) m p) m xs) (j:Nat) (hj:j<p):(w.cell? ⟨g,j,none⟩).isSome=true∧w.frozen? ⟨g,j,none⟩=false:=by
 rcases h.2 with ⟨h0,_⟩ | ⟨g',cap,cur,he,hb,hg,hc,hcm,hcs,ht⟩
 ·cases h0
 ·injection he with he1 he2 he3
  injection he1 with he1
  injection he1 with he1
  subst he1 he3
  rw [Nat.mul_one] at hcs
  exact ⟨by rw [cell_of_row w g j cur e (0,0) hg,Array.getElem?_eq_getElem (by omega)]; rfl,frozen_of_row w g j cur _ hg⟩
theorem own_behind {w:World} {base:Nat} {e:TypeId} {g m p:Nat} {xs:List Value} (h:w.ownsRow base e 1 (.slice (some ⟨g,0,none⟩) m p) m xs) (j:Nat) (hj:m≤j) (u:Value):(w.setCell ⟨g,j,none⟩ u).ownsRow base e 1 (.slice (some ⟨g,0,none⟩) m p) m xs:=by
 have:=(h.stored j u).1
 have hx:=h.1
 rwa [List.set_eq_of_length_le (by omega)] at this
theorem del_run {κ:IntKind} {e T:TypeId} {z:Value} (hT:Tryz.prog.underlying T=some (.slice e)) (hI:(Tryz.prog.info? e).map (fun i=>(i.zero,i.size,i.bytes))=some (some z,1,8))
 {W:World} {base g m p i c:Nat} {l:List Int} {A:Addr} (h:W.ownsRow base e 1 (.slice (some ⟨g,0,none⟩) m p) m (iv κ l)) (hi:i<m) (hA:(p=i+1∧A=⟨g,0,none⟩)∨A=⟨g,i+1,none⟩) :
 ∃ W5,(∀ ty,(Builtin.append_ #[T,T] ty #[.slice (some ⟨g,0,none⟩) i p,.slice (some A) (m-(i+1)) c]).run Tryz.prog W=.ok (.slice (some ⟨g,0,none⟩) (m-1) p) W5) ∧
   W5.ownsRow base e 1 (.slice (some ⟨g,0,none⟩) (m-1) p) (m-1) (iv κ (l.eraseIdx i))∧W.grownBy W5 (some g)∧g<W5.heap.size:=by
 obtain ⟨i0,hi0,hz0,hz1,hz2⟩:=info_of hI
 have hl:m=l.length:=by have:=h.1; rw [iv_len] at this; omega
 have hmp:=own_cap h
 have hc:=h.cellAt
 obtain ⟨W5,hrun,own5,g5⟩:=run_append_fits (P:=Tryz.prog) W base T T e i0 1 hT hi0 hz1 g i p (iv κ (l.take i)) (own_head h (by omega)) A (m-(i+1)) c (iv κ (l.drop (i+1))) (by rw [iv_len,List.length_drop]; omega)
  (fun j u hu=>by
   have hj:j<m-(i+1):=by
    have:=(List.getElem?_eq_some_iff.1 hu).1
    rw [iv_len,List.length_drop] at this
    omega
   rcases hA with ⟨hp,_⟩|rfl
   ·omega
   ·rw [Addr.add_mid,hc (i+1+j) (by omega),← hu]
    unfold iv
    rw [List.map_drop,List.getElem?_drop])
  (iv_one κ _) (by omega)
 have e1:i+(m-(i+1))=m-1:=by omega
 rw [e1] at hrun own5
 have e2:iv κ (l.take i)++iv κ (l.drop (i+1))=iv κ (l.eraseIdx i):=by
  unfold iv
  rw [← List.map_append,List.eraseIdx_eq_take_drop_succ]
 rw [e2] at own5
 exact ⟨W5,fun ty=>hrun,own5,g5,by have:=(h.lt g rfl).2; have:=g5.size; omega⟩
def DelP (κ:IntKind) (e:TypeId) (base g m p i:Nat) (l:List Int) (w:World) (en:Ending) (w' : World):Prop :=
 en=.returned (.slice (some ⟨g,0,none⟩) (m-1) p)∧w'.ownsRow base e 1 (.slice (some ⟨g,0,none⟩) (m-1) p) (m-1) (iv κ (l.eraseIdx i))∧w.grownBy w' (some g)
set_option maxHeartbeats 2000000 in
theorem del_i (base g m p i:Nat) (l:List Int) (w:World) (h:w.ownsRow base 3 1 (.slice (some ⟨g,0,none⟩) m p) m (iv .i64 l)) (hi:i<m) (hm:m≤1000) :
 Calls Tryz.prog 179 #[.slice (some ⟨g,0,none⟩) m p,.int .i64 (i:Int),.int .i64 ((i:Int)+1)] w (DelP .i64 3 base g m p i l w):=by
 have hmp:=own_cap h
 have hpm:p≤maxLen:=by
  rcases h.2 with ⟨h0,_⟩ | ⟨g',cap,cur,he,hb,hg,hc,hcm,hcs,ht⟩
  ·cases h0
  ·injection he with _ _ he3
   omega
 unfold maxLen at hpm
 have hj:(i:Int)+1=((i+1:Nat):Int):=by omega
 rw [hj]
 have hgs:g<w.heap.size:=(h.lt g rfl).2
 obtain ⟨A,hA1,hA2⟩:∃ A:Addr,(if p=i+1 then some (⟨g,0,none⟩:Addr) else some ⟨g,i+1,none⟩)=some A∧((p=i+1∧A=⟨g,0,none⟩)∨A=⟨g,i+1,none⟩):=by
  by_cases hc:p=i+1
  ·exact ⟨_,if_pos hc,.inl ⟨hc,rfl⟩⟩
  ·exact ⟨_,if_neg hc,.inr rfl⟩
 obtain ⟨W5,hrun,own5,g5,hg5⟩:=del_run (T:=40) (c:=p-(i+1)) Tryz.underlying40 infoI (own_later h (below_drawn w)) hi hA2
 obtain ⟨M,HM⟩:∃ M,Hid (m-1=M):=⟨_,Lib.hid rfl⟩
 rw [HM.out] at hrun own5
 have hM:m=M+1:=by have:=HM.out; omega
 have room:=own_room own5 M (by omega)
 have hcl:∀ ty,(Builtin.clear_ #[40] ty #[.slice (some ⟨g,M,none⟩) (m-M) (p-M)]).run Tryz.prog W5=.ok (.tuple #[]) (W5.setCell ⟨g,M,none⟩ (.int .i64 0)):=fun ty=>by
  have:=run_clear_slice (P:=Tryz.prog) W5 40 3 ty (.int .i64 0) Tryz.underlying40 Tryz.zeroValue3 rfl rfl g M (m-M) (p-M) (by omega)
   (fun t ht=>by obtain rfl:t=0:=by omega
                 exact room.1) (fun t ht=>by obtain rfl:t=0:=by omega
                                             exact room.2)
  rw [this,show m-M=1 by omega]
  rfl
 have HO:Hid ((W5.setCell ⟨g,M,none⟩ (.int .i64 0)).ownsRow base 3 1 (.slice (some ⟨g,0,none⟩) M p) M (iv .i64 (l.eraseIdx i))):=Lib.hid (own_behind own5 M (Nat.le_refl _) _)
 have HG:Hid (w.grownBy (W5.setCell ⟨g,M,none⟩ (.int .i64 0)) (some g)):=Lib.hid (by
  have e0:w.grownBy w.drew (some g):=⟨rfl,rfl,rfl,Nat.le_refl _,fun _ _ _=>rfl⟩
  exact (e0.trans g5).trans (grown_set W5 g M (.int .i64 0)))
 have HR:=Lib.hid hrun
 have h2:(m:Int)≤(p:Int):=by omega
 have h7:(i:Int)+1≤(m:Int):=by omega
 have h8:0≤(i:Int)+1:=by omega
 have h9:(i:Int)+1≤(p:Int):=by omega
 have h3:((i:Int) == (i:Int)+1)=false:=by simp; omega
 have h5:(i:Int)≤(p:Int):=by omega
 have q1:(M:Int)≤(m:Int):=by omega
 have q2:¬ p=M:=by omega
 have q3:(M:Int)≤(p:Int):=by omega
 clear hrun own5 g5 room h hj hM
 rw [← show (i:Int)+1=((i+1:Nat):Int) by omega]
 go_enter Tryz.func179,Tryz.ntmps179
 go_wp2_with fail
 go_region_law (refine step_append_run rfl (.tmp 22) (.tmp 25) 40 rfl _ _ rfl rfl HR.out ?_)
 go_wp2_with fail
 go_ret
 exact ⟨by rw [HM.out]; rfl,by rw [HM.out]; exact HO.out,HG.out⟩
set_option maxHeartbeats 2000000 in
theorem del_u (base g m p i:Nat) (l:List Int) (w:World) (h:w.ownsRow base 38 1 (.slice (some ⟨g,0,none⟩) m p) m (iv .u64 l)) (hi:i<m) (hm:m≤1000) :
 Calls Tryz.prog 180 #[.slice (some ⟨g,0,none⟩) m p,.int .i64 (i:Int),.int .i64 ((i:Int)+1)] w (DelP .u64 38 base g m p i l w):=by
 have hmp:=own_cap h
 have hpm:p≤maxLen:=by
  rcases h.2 with ⟨h0,_⟩ | ⟨g',cap,cur,he,hb,hg,hc,hcm,hcs,ht⟩
  ·cases h0
  ·injection he with _ _ he3
   omega
 unfold maxLen at hpm
 have hj:(i:Int)+1=((i+1:Nat):Int):=by omega
 rw [hj]
 have hgs:g<w.heap.size:=(h.lt g rfl).2
 obtain ⟨A,hA1,hA2⟩:∃ A:Addr,(if p=i+1 then some (⟨g,0,none⟩:Addr) else some ⟨g,i+1,none⟩)=some A∧((p=i+1∧A=⟨g,0,none⟩)∨A=⟨g,i+1,none⟩):=by
  by_cases hc:p=i+1
  ·exact ⟨_,if_pos hc,.inl ⟨hc,rfl⟩⟩
  ·exact ⟨_,if_neg hc,.inr rfl⟩
 obtain ⟨W5,hrun,own5,g5,hg5⟩:=del_run (T:=43) (c:=p-(i+1)) Tryz.underlying43 infoU (own_later h (below_drawn w)) hi hA2
 obtain ⟨M,HM⟩:∃ M,Hid (m-1=M):=⟨_,Lib.hid rfl⟩
 rw [HM.out] at hrun own5
 have hM:m=M+1:=by have:=HM.out; omega
 have room:=own_room own5 M (by omega)
 have hcl:∀ ty,(Builtin.clear_ #[43] ty #[.slice (some ⟨g,M,none⟩) (m-M) (p-M)]).run Tryz.prog W5=.ok (.tuple #[]) (W5.setCell ⟨g,M,none⟩ (.int .u64 0)):=fun ty=>by
  have:=run_clear_slice (P:=Tryz.prog) W5 43 38 ty (.int .u64 0) Tryz.underlying43 Tryz.zeroValue38 rfl rfl g M (m-M) (p-M) (by omega)
   (fun t ht=>by obtain rfl:t=0:=by omega
                 exact room.1) (fun t ht=>by obtain rfl:t=0:=by omega
                                             exact room.2)
  rw [this,show m-M=1 by omega]
  rfl
 have HO:Hid ((W5.setCell ⟨g,M,none⟩ (.int .u64 0)).ownsRow base 38 1 (.slice (some ⟨g,0,none⟩) M p) M (iv .u64 (l.eraseIdx i))):=Lib.hid (own_behind own5 M (Nat.le_refl _) _)
 have HG:Hid (w.grownBy (W5.setCell ⟨g,M,none⟩ (.int .u64 0)) (some g)):=Lib.hid (by
  have e0:w.grownBy w.drew (some g):=⟨rfl,rfl,rfl,Nat.le_refl _,fun _ _ _=>rfl⟩
  exact (e0.trans g5).trans (grown_set W5 g M (.int .u64 0)))
 have HR:=Lib.hid hrun
 have h2:(m:Int)≤(p:Int):=by omega
 have h7:(i:Int)+1≤(m:Int):=by omega
 have h8:0≤(i:Int)+1:=by omega
 have h9:(i:Int)+1≤(p:Int):=by omega
 have h3:((i:Int) == (i:Int)+1)=false:=by simp; omega
 have h5:(i:Int)≤(p:Int):=by omega
 have q1:(M:Int)≤(m:Int):=by omega
 have q2:¬ p=M:=by omega
 have q3:(M:Int)≤(p:Int):=by omega
 clear hrun own5 g5 room h hj hM
 rw [← show (i:Int)+1=((i+1:Nat):Int) by omega]
 go_enter Tryz.func180,Tryz.ntmps180
 go_wp2_with fail
 go_region_law (refine step_append_run rfl (.tmp 22) (.tmp 25) 43 rfl _ _ rfl rfl HR.out ?_)
 go_wp2_with fail
 go_ret
 exact ⟨by rw [HM.out]; rfl,by rw [HM.out]; exact HO.out,HG.out⟩
open Go.RowKit Go.Lib
set_option linter.unusedVariables false
section
variable {base:Nat} {g:Nat} {A:Option Addr} {m p:Nat} {B:Option Addr} {k q:Nat} {C:Option Addr} {n r:Nat} {o l f:List Int} {W W' : World} {i:Nat}
theorem Rows3.delA (h:Rows3 base (some ⟨g,0,none⟩) m p B k q C n r o l f W) (own:W'.ownsRow base 3 1 (.slice (some ⟨g,0,none⟩) (m-1) p) (m-1) (iv .i64 (o.eraseIdx i))) (hg:W.grownBy W' (some g)) :
 Rows3 base (some ⟨g,0,none⟩) (m-1) p B k q C n r (o.eraseIdx i) l f W' :=
 ⟨own,own_kept (A:=some ⟨g,0,none⟩) (p:=0) h.b hg (fun j hj=>h.ab j hj),own_kept (A:=some ⟨g,0,none⟩) (p:=0) h.c hg (fun j hj=>by have:=own_ne h.a h.c (by decide) j; rw [ob_eq,ob_eq] at this; exact this hj),fun j hj=>h.ab j hj⟩
theorem Rows3.delB (h:Rows3 base A m p (some ⟨g,0,none⟩) k q C n r o l f W) (own:W'.ownsRow base 3 1 (.slice (some ⟨g,0,none⟩) (k-1) q) (k-1) (iv .i64 (l.eraseIdx i))) (hg:W.grownBy W' (some g)) :
 Rows3 base A m p (some ⟨g,0,none⟩) (k-1) q C n r o (l.eraseIdx i) f W' :=
 ⟨own_kept (A:=some ⟨g,0,none⟩) (p:=0) h.a hg (fun j hj hh=>h.ab j hh hj),own,own_kept (A:=some ⟨g,0,none⟩) (p:=0) h.c hg (fun j hj=>by have:=own_ne h.b h.c (by decide) j; rw [ob_eq,ob_eq] at this; exact this hj),h.ab⟩
theorem Rows3.delC (h:Rows3 base A m p B k q (some ⟨g,0,none⟩) n r o l f W) (own:W'.ownsRow base 38 1 (.slice (some ⟨g,0,none⟩) (n-1) r) (n-1) (iv .u64 (f.eraseIdx i))) (hg:W.grownBy W' (some g)) :
 Rows3 base A m p B k q (some ⟨g,0,none⟩) (n-1) r o l (f.eraseIdx i) W' :=
 ⟨own_kept (A:=some ⟨g,0,none⟩) (p:=0) h.a hg (fun j hj=>by have:=own_ne h.c h.a (by decide) j; rw [ob_eq,ob_eq] at this; exact this hj),own_kept (A:=some ⟨g,0,none⟩) (p:=0) h.b hg (fun j hj=>by have:=own_ne h.c h.b (by decide) j; rw [ob_eq,ob_eq] at this; exact this hj),own,h.ab⟩
theorem below_grown {w0:World} {n0 g:Nat} (h:Below n0 w0 W) (hg:W.grownBy W' (some g)) (hn:n0≤W.heap.size) (h0:n0≤g):Below n0 w0 W':=h.grown hg hn (fun j e=>by injection e with e; omega)
end
set_option maxRecDepth 100000 in
set_option maxHeartbeats 8000000 in
theorem drop_any (sg st:Int) (A:Option Addr) (m p:Nat) (B:Option Addr) (k q:Nat) (C:Option Addr) (n r:Nat) (o l f:List Int) (x:Int) (w:World) (h:TIn w A m B k C n o l f) (hok:okP ⟨sg,st,o,l,f⟩) :
 Calls Tryz.prog 140 #[.agg #[.int .i64 sg,.int .i64 st,.slice A m p,.slice B k q,.slice C n r],.int .i64 x] w (ResP (tabOf (dropT ⟨sg,st,o,l,f⟩ x)) (errOf (dropT ⟨sg,st,o,l,f⟩ x) 1) w):=by
 obtain ⟨⟨hfa,hfb,hfc⟩,hm,hk,hn,hml,hkl,hnl⟩:=ok_full hok h
 have hm2:m≤1000:=by omega
 have hk2:k≤1000:=by omega
 have hn2:n≤1000:=by omega
 have hol:m=o.length:=h.a.len
 have B0:Below w.heap.size w ((w.alloc (.cells #[.int .i64 sg,.int .i64 st,.slice A m p,.slice B k q,.slice C n r] 45)).alloc (.cells #[.int .i64 0,.int .i64 0,.slice none 0 0,.slice none 0 0,.slice none 0 0] 45)):=Ge.trans (below1 _ _) (below1 _ _)
 have K0:Blk ((w.alloc (.cells #[.int .i64 sg,.int .i64 st,.slice A m p,.slice B k q,.slice C n r] 45)).alloc (.cells #[.int .i64 0,.int .i64 0,.slice none 0 0,.slice none 0 0,.slice none 0 0] 45)) w.heap.size 45 (csT sg st A m p B k q C n r):=(Blk.new w _ _).later (below1 _ _)
 have Z0:Blk ((w.alloc (.cells #[.int .i64 sg,.int .i64 st,.slice A m p,.slice B k q,.slice C n r] 45)).alloc (.cells #[.int .i64 0,.int .i64 0,.slice none 0 0,.slice none 0 0,.slice none 0 0] 45)) (w.heap.size+1) 45 (csT 0 0 none 0 0 none 0 0 none 0 0):=Blk.at_ _ _ _ (by simp)
 have sz0:((w.alloc (.cells #[.int .i64 sg,.int .i64 st,.slice A m p,.slice B k q,.slice C n r] 45)).alloc (.cells #[.int .i64 0,.int .i64 0,.slice none 0 0,.slice none 0 0,.slice none 0 0] 45)).heap.size=w.heap.size+2:=by simp
 have hv:=Tryz.zeroValue45
 have hT:=h.later B0
 obtain ⟨y,HY⟩:∃ y,Hid (idx o x=y):=⟨_,Lib.hid rfl⟩
 have HI:=Lib.hid (index_is A m p o x y _ hT.a hml HY.out)
 obtain ⟨u,HU⟩:∃ u,Hid ((m:Int)-1=u):=⟨_,Lib.hid rfl⟩
 have HO:=Lib.hid (fun W=>open_is sg st A m p B k q C n r u W hml HU.out)
 have hylt:=idx_lt (l:=o) (x:=x)
 rw [HY.out,← hol] at hylt
 have HT:=Lib.hid h
 have HK:=Lib.hid K0
 have HZ:=Lib.hid Z0
 have HB:=Lib.hid B0
 have SZ:=Lib.hid sz0
 have DT:Hid (dropT ⟨sg,st,o,l,f⟩ x=if y<0∨y=u then none else some (droppedT ⟨sg,st,o,l,f⟩ y.toNat)):=Lib.hid (by
  unfold dropT; simp only; rw [HY.out,← hol,HU.out])
 have HKM:=Lib.hid hk
 have HNM:=Lib.hid hn
 clear hT h B0 K0 Z0 sz0 hok hk hn hol
 by_cases hy:y<0
 ·rw [DT.out,if_pos (.inl hy)]
  simp only [tabOf,errOf,Option.getD]
  clear hylt hm
  go_enter Tryz.func140,Tryz.ntmps140
  go_wp2_with fail
  refine HI.out.mono ?_
  rintro e w1 ⟨rfl,rfl⟩
  go_wp2_with (with_reducible refine store_t rfl (.tmp 4) (.tmp 19) rfl (w.heap.size+1) rfl rfl HZ.out ?_)
  exact bodyPost_ret (res_t2 (y:=.int .i64 1) rfl _ _ (w.heap.size+1) rfl rfl (HZ.out.row _)) rfl (zero_res 1 w _ (below_row HB.out (by omega) _))
 by_cases hu:y=u
 ·rw [DT.out,if_pos (.inr hu)]
  simp only [tabOf,errOf,Option.getD]
  subst hu
  have hyy:(y == y)=true:=by simp
  clear hylt hm
  go_enter Tryz.func140,Tryz.ntmps140
  go_wp2_with (with_reducible refine load_t rfl (.tmp 2) rfl w.heap.size rfl HK.out ?_)
  refine HI.out.mono ?_
  rintro e w1 ⟨rfl,rfl⟩
  go_wp2_with fail
  refine (HO.out _).mono ?_
  rintro e w1 ⟨rfl,hb⟩
  have Z1:=Lib.hid (HZ.out.later hb)
  have B1:=Lib.hid (Ge.trans HB.out hb)
  clear hb
  go_wp2_with (with_reducible refine store_t rfl (.tmp 4) (.tmp 19) rfl (w.heap.size+1) rfl rfl Z1.out ?_)
  exact bodyPost_ret (res_t2 (y:=.int .i64 1) rfl _ _ (w.heap.size+1) rfl rfl (Z1.out.row _)) rfl (zero_res 1 w _ (below_row B1.out (by omega) _))
 rw [DT.out,if_neg (by omega)]
 simp only [tabOf,errOf,Option.getD,droppedT]
 obtain ⟨i,rfl⟩:=Int.eq_ofNat_of_zero_le (by omega:0≤y)
 have him:i<m:=by omega
 have hik:i<k:=by have:=HKM.out; omega
 have hin:i<n:=by have:=HNM.out; omega
 have hyy:((i:Int) == u)=false:=by simp [hu]
 have hi0:¬ (i:Int)<0:=by omega
 have hi9:(i:Int)<1000:=by omega
 rw [show ((i:Int)).toNat=i by simp]
 clear hylt hm hu hy DT HKM HNM
 go_enter Tryz.func140,Tryz.ntmps140
 go_wp2_with (with_reducible refine load_t rfl (.tmp 2) rfl w.heap.size rfl HK.out ?_)
 refine HI.out.mono ?_
 rintro e w1 ⟨rfl,rfl⟩
 go_wp2_with fail
 refine (HO.out _).mono ?_
 rintro e w1 ⟨rfl,hb⟩
 have Z1:=HZ.out.later hb
 have K1:=Lib.hid (HK.out.later hb)
 have B1:=Ge.trans HB.out hb
 have sz1:w.heap.size+2≤w1.heap.size:=by have:=hb.size; rw [SZ.out] at this; exact this
 have C1:=Lib.hid (copied_any sg st A m p B k q C n r o l f w1 (HT.out.later B1) hfa hfb hfc hm2 hk2 hn2)
 clear hb HI HO HZ HK HB SZ HT
 go_wp2_with (with_reducible refine load_t rfl (.tmp 2) rfl w.heap.size rfl K1.out ?_)
 refine C1.out.mono ?_
 rintro e' w2 ⟨A1,p1,B1',q1,D1,r1,rfl,R1,b1⟩
 have K2:=Lib.hid (K1.out.later b1)
 have Z2:=Z1.later b1
 have B2:=Ge.trans B1 b1
 obtain ⟨ga,rfl,ha,_⟩:=own_some R1.a (by omega)
 obtain ⟨gb,rfl,hbb,_⟩:=own_some R1.b (by omega)
 obtain ⟨gc,rfl,hcc,_⟩:=own_some R1.c (by omega)
 have R2:=R1.wide sz1
 have ga2:w.heap.size+2≤ga:=by omega
 have gb2:w.heap.size+2≤gb:=by omega
 have gc2:w.heap.size+2≤gc:=by omega
 clear C1 Z1 B1 b1 R1 K1 sz1 ha hbb hcc
 go_upto_region 5 with (with_reducible refine store_t rfl (.tmp 2) (.tmp 21) rfl w.heap.size rfl rfl K2.out ?_)
 have K3:Blk (w2.setRow w.heap.size (csT sg st (some ⟨ga,0,none⟩) m p1 (some ⟨gb,0,none⟩) k q1 (some ⟨gc,0,none⟩) n r1)) w.heap.size 45 (csT sg st (some ⟨ga,0,none⟩) m p1 (some ⟨gb,0,none⟩) k q1 (some ⟨gc,0,none⟩) n r1):=K2.out.row _
 have Z3:Blk (w2.setRow w.heap.size (csT sg st (some ⟨ga,0,none⟩) m p1 (some ⟨gb,0,none⟩) k q1 (some ⟨gc,0,none⟩) n r1)) (w.heap.size+1) 45 (csT 0 0 none 0 0 none 0 0 none 0 0):=Z2.far (by omega) _
 have B3:Below w.heap.size w (w2.setRow w.heap.size (csT sg st (some ⟨ga,0,none⟩) m p1 (some ⟨gb,0,none⟩) k q1 (some ⟨gc,0,none⟩) n r1)):=below_row B2 (Nat.le_refl _) _
 have R3:Rows3 (w.heap.size+2) (some ⟨ga,0,none⟩) m p1 (some ⟨gb,0,none⟩) k q1 (some ⟨gc,0,none⟩) n r1 o l f (w2.setRow w.heap.size (csT sg st (some ⟨ga,0,none⟩) m p1 (some ⟨gb,0,none⟩) k q1 (some ⟨gc,0,none⟩) n r1)):=R2.row (by omega)
 clear K2 Z2 B2 R2
 generalize w2.setRow w.heap.size (csT sg st (some ⟨ga,0,none⟩) m p1 (some ⟨gb,0,none⟩) k q1 (some ⟨gc,0,none⟩) n r1)=W3 at *
 have C3:=Lib.hid (del_i (w.heap.size+2) ga m p1 i o W3 R3.a him hm2)
 have k3:W3.cell? ⟨w.heap.size,2,none⟩=some (.slice (some ⟨ga,0,none⟩) m p1):=K3.cell 2
 go_wp2_with fail
 refine C3.out.mono ?_
 rintro e' y0 ⟨rfl,own3,gr3⟩
 have Ky:=blk_grown K3 gr3 (fun e=>by injection e with e; omega)
 have Zy:=blk_grown Z3 gr3 (fun e=>by injection e with e; omega)
 have By:=below_grown B3 gr3 B3.size (by omega)
 have Ry:=R3.delA own3 gr3
 have cy:y0.cell? ⟨w.heap.size,2,none⟩=some (.slice (some ⟨ga,0,none⟩) m p1):=Ky.cell 2
 have fy:=Ky.frozen 2
 clear C3 k3 own3 gr3 K3 Z3 B3 R3
 go_upto_region 6 with fail
 have K5:Blk (y0.setCell ⟨w.heap.size,2,none⟩ (.slice (some ⟨ga,0,none⟩) (m-1) p1)) w.heap.size 45 (csT sg st (some ⟨ga,0,none⟩) (m-1) p1 (some ⟨gb,0,none⟩) k q1 (some ⟨gc,0,none⟩) n r1):=Ky.set_ 2 _
 have Z5:Blk (y0.setCell ⟨w.heap.size,2,none⟩ (.slice (some ⟨ga,0,none⟩) (m-1) p1)) (w.heap.size+1) 45 (csT 0 0 none 0 0 none 0 0 none 0 0):=blk_far Zy (by omega)
 have B5:Below w.heap.size w (y0.setCell ⟨w.heap.size,2,none⟩ (.slice (some ⟨ga,0,none⟩) (m-1) p1)):=Below.setCell (p:=⟨w.heap.size,2,none⟩) By (Nat.le_refl _) _
 have R5:Rows3 (w.heap.size+2) (some ⟨ga,0,none⟩) (m-1) p1 (some ⟨gb,0,none⟩) k q1 (some ⟨gc,0,none⟩) n r1 (o.eraseIdx i) l f (y0.setCell ⟨w.heap.size,2,none⟩ (.slice (some ⟨ga,0,none⟩) (m-1) p1)):=Ry.set_ (by omega)
 clear cy fy Ky Zy By Ry
 generalize y0.setCell ⟨w.heap.size,2,none⟩ (.slice (some ⟨ga,0,none⟩) (m-1) p1)=W5 at *
 have C5:=Lib.hid (del_i (w.heap.size+2) gb k q1 i l W5 R5.b hik hk2)
 have k5:W5.cell? ⟨w.heap.size,3,none⟩=some (.slice (some ⟨gb,0,none⟩) k q1):=K5.cell 3
 go_wp2_with fail
 refine C5.out.mono ?_
 rintro e' y1 ⟨rfl,own5,gr5⟩
 have Ky:=blk_grown K5 gr5 (fun e=>by injection e with e; omega)
 have Zy:=blk_grown Z5 gr5 (fun e=>by injection e with e; omega)
 have By:=below_grown B5 gr5 B5.size (by omega)
 have Ry:=R5.delB own5 gr5
 have cy:y1.cell? ⟨w.heap.size,3,none⟩=some (.slice (some ⟨gb,0,none⟩) k q1):=Ky.cell 3
 have fy:=Ky.frozen 3
 clear C5 k5 own5 gr5 K5 Z5 B5 R5
 go_upto_region 7 with fail
 have K7:Blk (y1.setCell ⟨w.heap.size,3,none⟩ (.slice (some ⟨gb,0,none⟩) (k-1) q1)) w.heap.size 45 (csT sg st (some ⟨ga,0,none⟩) (m-1) p1 (some ⟨gb,0,none⟩) (k-1) q1 (some ⟨gc,0,none⟩) n r1):=Ky.set_ 3 _
 have Z7:Blk (y1.setCell ⟨w.heap.size,3,none⟩ (.slice (some ⟨gb,0,none⟩) (k-1) q1)) (w.heap.size+1) 45 (csT 0 0 none 0 0 none 0 0 none 0 0):=blk_far Zy (by omega)
 have B7:Below w.heap.size w (y1.setCell ⟨w.heap.size,3,none⟩ (.slice (some ⟨gb,0,none⟩) (k-1) q1)):=Below.setCell (p:=⟨w.heap.size,3,none⟩) By (Nat.le_refl _) _
 have R7:Rows3 (w.heap.size+2) (some ⟨ga,0,none⟩) (m-1) p1 (some ⟨gb,0,none⟩) (k-1) q1 (some ⟨gc,0,none⟩) n r1 (o.eraseIdx i) (l.eraseIdx i) f (y1.setCell ⟨w.heap.size,3,none⟩ (.slice (some ⟨gb,0,none⟩) (k-1) q1)):=Ry.set_ (by omega)
 clear cy fy Ky Zy By Ry
 generalize y1.setCell ⟨w.heap.size,3,none⟩ (.slice (some ⟨gb,0,none⟩) (k-1) q1)=W7 at *
 have C7:=Lib.hid (del_u (w.heap.size+2) gc n r1 i f W7 R7.c hin hn2)
 have k7:W7.cell? ⟨w.heap.size,4,none⟩=some (.slice (some ⟨gc,0,none⟩) n r1):=K7.cell 4
 go_wp2_with fail
 refine C7.out.mono ?_
 rintro e' y2 ⟨rfl,own7,gr7⟩
 have Ky:=blk_grown K7 gr7 (fun e=>by injection e with e; omega)
 have Zy:=blk_grown Z7 gr7 (fun e=>by injection e with e; omega)
 have By:=below_grown B7 gr7 B7.size (by omega)
 have Ry:=R7.delC own7 gr7
 have cy:y2.cell? ⟨w.heap.size,4,none⟩=some (.slice (some ⟨gc,0,none⟩) n r1):=Ky.cell 4
 have fy:=Ky.frozen 4
 clear C7 k7 own7 gr7 K7 Z7 B7 R7
 go_upto_region 8 with fail
 have K9:Blk (y2.setCell ⟨w.heap.size,4,none⟩ (.slice (some ⟨gc,0,none⟩) (n-1) r1)) w.heap.size 45 (csT sg st (some ⟨ga,0,none⟩) (m-1) p1 (some ⟨gb,0,none⟩) (k-1) q1 (some ⟨gc,0,none⟩) (n-1) r1):=Ky.set_ 4 _
 have Z9:Blk (y2.setCell ⟨w.heap.size,4,none⟩ (.slice (some ⟨gc,0,none⟩) (n-1) r1)) (w.heap.size+1) 45 (csT 0 0 none 0 0 none 0 0 none 0 0):=blk_far Zy (by omega)
 have B9:Below w.heap.size w (y2.setCell ⟨w.heap.size,4,none⟩ (.slice (some ⟨gc,0,none⟩) (n-1) r1)):=Below.setCell (p:=⟨w.heap.size,4,none⟩) By (Nat.le_refl _) _
 have R9:Rows3 (w.heap.size+2) (some ⟨ga,0,none⟩) (m-1) p1 (some ⟨gb,0,none⟩) (k-1) q1 (some ⟨gc,0,none⟩) (n-1) r1 (o.eraseIdx i) (l.eraseIdx i) (f.eraseIdx i) (y2.setCell ⟨w.heap.size,4,none⟩ (.slice (some ⟨gc,0,none⟩) (n-1) r1)):=Ry.set_ (by omega)
 clear cy fy Ky Zy By Ry
 generalize y2.setCell ⟨w.heap.size,4,none⟩ (.slice (some ⟨gc,0,none⟩) (n-1) r1)=W9 at *
 have HK9:=Lib.hid K9
 have HZ9:=Lib.hid Z9
 have HB9:=Lib.hid B9
 have HR9:=Lib.hid R9
 clear K9 Z9 B9 R9
 go_wp2_with (first
  | (with_reducible refine load_t rfl (.tmp 2) rfl w.heap.size rfl HK9.out ?_)
  | (with_reducible refine store_t rfl (.tmp 4) (.tmp 43) rfl (w.heap.size+1) rfl rfl HZ9.out ?_))
 have RR:=HR9.out.row (b:=w.heap.size+1) (cs:=csT sg st (some ⟨ga,0,none⟩) (m-1) p1 (some ⟨gb,0,none⟩) (k-1) q1 (some ⟨gc,0,none⟩) (n-1) r1) (by omega)
 exact bodyPost_ret (res_t2 (y:=.int .i64 0) rfl _ _ (w.heap.size+1) rfl rfl (HZ9.out.row _)) rfl ⟨_,m-1,p1,_,k-1,q1,_,n-1,r1,rfl,RR.tin,own_cap RR.a,(RR.wide (by omega)).fresh,below_row HB9.out (by omega) _⟩
open Go.RowKit Go.Lib
set_option linter.unusedVariables false
open Go.RowKit Go.Lib
set_option linter.unusedVariables false
theorem ref_any (sg st:Int) (A:Option Addr) (m p:Nat) (B:Option Addr) (k q:Nat) (C:Option Addr) (n r:Nat) (w:World):Calls Tryz.prog 27 #[.agg #[.int .i64 sg,.int .i64 st,.slice A m p,.slice B k q,.slice C n r]] w fun e' w'=>e' = .returned (.agg #[.int .i64 sg,.int .i64 st,.slice A m p,.slice B k q,.slice C n r])∧Below w.heap.size w w':=by
 have hb:Below w.heap.size w ((w.alloc (.cells #[.int .i64 sg,.int .i64 st,.slice A m p,.slice B k q,.slice C n r] 45)).alloc (.cells #[.int .i64 0,.int .i64 0,.slice none 0 0,.slice none 0 0,.slice none 0 0] 53)):=Ge.trans (below1 _ _) (below1 _ _)
 have K0:Blk ((w.alloc (.cells #[.int .i64 sg,.int .i64 st,.slice A m p,.slice B k q,.slice C n r] 45)).alloc (.cells #[.int .i64 0,.int .i64 0,.slice none 0 0,.slice none 0 0,.slice none 0 0] 53)) (w.heap.size+1) 53 (csT 0 0 none 0 0 none 0 0 none 0 0):=Blk.at_ _ _ _ (by simp)
 have HK:=Lib.hid K0
 have HB:=Lib.hid hb
 clear K0 hb
 go_enter Tryz.func27,Tryz.ntmps27
 go_wp2_with (with_reducible refine store_r rfl (.tmp 2) (.tmp 13) rfl (w.heap.size+1) rfl rfl HK.out ?_)
 exact bodyPost_ret (res_r1 rfl _ _ (w.heap.size+1) rfl (HK.out.row _)) rfl ⟨rfl,below_row HB.out (by omega) _⟩
set_option maxHeartbeats 1000000 in
theorem tsector_any (sl sg so:Int) (w:World):Calls Tryz.prog 160 #[.int .i64 sl,.agg #[.int .i64 sg,.int .i64 so]] w fun e w'=>e=.returned (.int .i64 (sectorT sl sg so))∧Below w.heap.size w w':=by
 have HB:=Lib.hid (below1 w (.cells #[.int .i64 sg,.int .i64 so] 93))
 by_cases h:1≤sl∧sl≤30
 case neg =>
  rw [show sectorT sl sg so = -1 by unfold sectorT; rw [if_neg (by omega)]]
  have HS:Hid (decide (1≤sl∧sl≤30)=false):=Lib.hid (decide_eq_false h)
  clear h
  go_enter Tryz.func160,Tryz.ntmps160
  go_wp2_with fail
  refine (slots_is sl false _ HS.out).mono ?_
  rintro e w' ⟨rfl,rfl⟩
  go_wp2_with fail
  go_ret
  exact ⟨rfl,HB.out⟩
 have HS:Hid (decide (1≤sl∧sl≤30)=true):=Lib.hid (decide_eq_true h)
 have h1:1≤sl:=h.1
 have h2:sl≤30:=h.2
 clear h
 by_cases h3:sg<0
 ·rw [show sectorT sl sg so = -1 by unfold sectorT; rw [if_neg (by omega)]]
  go_enter Tryz.func160,Tryz.ntmps160
  go_wp2_with fail
  refine (slots_is sl true _ HS.out).mono ?_
  rintro e w' ⟨rfl,rfl⟩
  go_wp2_with fail
  go_ret
  exact ⟨rfl,HB.out⟩
 have h3:0≤sg:=by omega
 by_cases h4:16≤sg
 ·rw [show sectorT sl sg so = -1 by unfold sectorT; rw [if_neg (by omega)]]
  go_enter Tryz.func160,Tryz.ntmps160
  go_wp2_with fail
  refine (slots_is sl true _ HS.out).mono ?_
  rintro e w' ⟨rfl,rfl⟩
  go_wp2_with fail
  go_ret
  exact ⟨rfl,HB.out⟩
 have h4:sg≤15:=by omega
 have h4s:sg<16:=by omega
 by_cases h5:so<0
 ·rw [show sectorT sl sg so = -1 by unfold sectorT; rw [if_neg (by omega)]]
  go_enter Tryz.func160,Tryz.ntmps160
  go_wp2_with fail
  refine (slots_is sl true _ HS.out).mono ?_
  rintro e w' ⟨rfl,rfl⟩
  go_wp2_with fail
  go_ret
  exact ⟨rfl,HB.out⟩
 have h5:0≤so:=by omega
 by_cases h6:sl<so
 ·rw [show sectorT sl sg so = -1 by unfold sectorT; rw [if_neg (by omega)]]
  go_enter Tryz.func160,Tryz.ntmps160
  go_wp2_with fail
  refine (slots_is sl true _ HS.out).mono ?_
  rintro e w' ⟨rfl,rfl⟩
  go_wp2_with fail
  go_ret
  exact ⟨rfl,HB.out⟩
 have h6:so≤sl:=by omega
 rw [show sectorT sl sg so=2+sg*(sl+1)+so by unfold sectorT; rw [if_pos (by omega)]]
 have b1:0≤sg*(sl+1):=Int.mul_nonneg (by omega) (by omega)
 have b2:sg*(sl+1)≤465:=by
  calc sg*(sl+1)≤15*(sl+1):=Int.mul_le_mul_of_nonneg_right h4 (by omega)
   _≤465:=by omega
 go_enter Tryz.func160,Tryz.ntmps160
 go_wp2_with fail
 refine (slots_is sl true _ HS.out).mono ?_
 rintro e w' ⟨rfl,rfl⟩
 go_wp2_with fail
 go_ret
 exact ⟨rfl,HB.out⟩
open Go.RowKit Go.Lib
set_option linter.unusedVariables false
open Go.RowKit Go.Lib
set_option linter.unusedVariables false
def S:List Int→Int
 | []=>0
 | x :: r=>x+S r
theorem fold_S:∀ (l:List Int) (a:Int),l.foldl (· + ·) a=a+S l
 | [],a=>by simp [S]
 | x :: r,a=>by rw [List.foldl_cons,fold_S r]; simp only [S]; omega
theorem used_S (t:Tab):usedT t=S t.l:=by
 unfold usedT sumTo; rw [List.take_length,fold_S]; omega
theorem S_app:∀ (l m:List Int),S (l++m)=S l+S m
 | [],m=>by simp [S]
 | x :: r,m=>by simp only [List.cons_append,S]; rw [S_app r m]; omega
theorem S_le {c:Int}:∀ (l:List Int),(∀ x∈l,0≤x∧x≤c)→0≤S l∧S l≤c*l.length
 | [],h=>by simp [S]
 | x :: r,h=>by
   have h1:=S_le r (fun y hy=>h y (List.mem_cons_of_mem _ hy))
   have h2:=h x (List.mem_cons_self ..)
   simp only [S,List.length_cons]
   rw [show (((r.length+1:Nat)):Int)=(r.length:Int)+1 by omega,Int.mul_add]
   omega
theorem nth_set {l:List Int} {i:Nat} {x:Int} (h:i<l.length):nth (l.set i x) i=x:=by
 unfold nth; simp [List.getD,h]
theorem last_app (l:List Int) (x:Int):lastN (l++[x])=x:=by
 unfold lastN; rw [show (l++[x]).length-1=l.length by simp,nth_last]
theorem last_set (l:List Int) (x:Int) (h:1≤l.length):lastN (l.set (l.length-1) x)=x:=by
 unfold lastN; rw [List.length_set,nth_set (by omega)]
def openT (t:Tab):Int:=t.st-lastN t.l
structure Bd (t:Tab):Prop where
 o:0≤openT t∧openT t≤30
 r:0≤roomT t∧roomT t≤480
 u:0≤usedT t∧usedT t≤480
 m:0≤t.sg*t.st∧t.sg*t.st≤480
 s:roomT t+usedT t≤t.sg*t.st
 f:((freeT t).length:Int)+t.o.length=t.sg
 l:1≤t.o.length∧t.o.length≤16
theorem ok_free {t:Tab} (h:okP t):((freeT t).length:Int)+t.o.length=t.sg:=by
 have:=free_len (o:=t.o) (n:=t.sg.toNat) (fun x hx=>by have:=h.2.2.2.1 x hx; have:=h.1; omega) h.2.2.2.2.1
 have h1:=h.1
 unfold freeT
 omega
theorem ok_bounds {t:Tab} (h:okP t):Bd t:=by
 have hf:=ok_free h
 obtain ⟨h1,h2,h3,h4,h5,h6,h7,h8⟩:=h
 have hl:=h6 _ (last_mem (l:=t.l) (by omega))
 have hs:=S_le t.l h6
 have hi:=S_le (t.l.take (t.l.length-1)) (fun x hx=>h6 x (List.mem_of_mem_take hx))
 have he:S t.l=S (t.l.take (t.l.length-1))+lastN t.l:=by
  have:=take_nth (l:=t.l) (i:=t.l.length-1) (by omega)
  rw [show t.l.length-1+1=t.l.length by omega,List.take_length] at this
  conv=>lhs; rw [this,S_app]
  simp [S,lastN]
 rw [List.length_take,show min (t.l.length-1) t.l.length=t.o.length-1 by omega] at hi
 have hc:(((t.o.length-1:Nat)):Int)=(t.o.length:Int)-1:=by omega
 rw [hc] at hi
 have e1:t.st*((t.o.length:Int)-1)=t.st*(t.o.length:Int)-t.st:=by rw [Int.mul_sub]; omega
 have e2:t.st*(t.sg-(t.o.length:Int))=t.sg*t.st-t.st*(t.o.length:Int):=by rw [Int.mul_sub,Int.mul_comm t.st t.sg]
 have e3:t.sg*t.st≤480:=by
  calc t.sg*t.st≤16*t.st:=Int.mul_le_mul_of_nonneg_right h1.2 (by omega)
   _≤480:=by omega
 have e4:0≤t.sg*t.st:=Int.mul_nonneg (by omega) (by omega)
 have e5:0≤t.st*(t.sg-(t.o.length:Int)):=Int.mul_nonneg (by omega) (by omega)
 have e6:0≤t.st*((t.o.length:Int)-1):=Int.mul_nonneg (by omega) (by omega)
 refine ⟨?_,?_,?_,⟨e4,e3⟩,?_,hf,⟨h3,by omega⟩⟩
 ·unfold openT; omega
 ·unfold roomT; omega
 ·rw [used_S]; omega
 ·unfold roomT; rw [used_S]; omega
open Go.RowKit Go.Lib
set_option linter.unusedVariables false
inductive Cnd where
 | any
 | is (v:Value)
 | lst (l:List Int)
def Cnd.p:Cnd→World→Value→Prop
 | .any=>fun _ _=>True
 | .is v=>fun _ u=>u=v
 | .lst l=>fun W u=>∃ A m p,u=.slice A m p∧Sl .i64 W A m l
theorem Cnd.later (c:Cnd) {W W' : World} {u:Value} (hb:Below W.heap.size W W') (h:c.p W u):c.p W' u:=by
 cases c with
 | any=>exact trivial
 | is v=>exact h
 | lst l =>
   obtain ⟨A,m,p,e,s⟩:=h
   exact ⟨A,m,p,e,s.later hb⟩
end Go.Proofs.YtcnohlgigmmefaaGreat.Tb
