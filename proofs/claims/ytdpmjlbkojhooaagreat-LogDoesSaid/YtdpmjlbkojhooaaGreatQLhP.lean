/- A part. -/
import Derived.Test.YtdpmjlbkojhooaaGreatQLhN
import Derived.Test.YtdpmjlbkojhooaaGreatQLhO
import Derived.Test.YtdpmjlbkojhooaaGreatQLgO
namespace Go.Proofs.YtdpmjlbkojhooaaGreat.Lg
open Go.RowKit Go.Lib
open Tb (Tab TIn Sl okP csT lastN nth Fresh)
open Dk (St Only Grew)
set_option linter.unusedVariables false
set_option maxRecDepth 100000
theorem res_recp1 {fn:Func} {p' : Tmp} (h:fn.results=#[.cell p' 46]) (tmps:Array Value) (W:World) (b:Nat) {cs:Array Value} {t:TypeId} (hp:tmps.getD p' undef=.pointer (some ⟨b,0,none⟩)) (L:Tb.Blk W b t cs) (hs:cs.size=7) :
 (results fn tmps).run Tryz.prog W=.ok (.agg cs) W :=
 results_cell_row h tmps W b t cs (0,0) _ hp L Tryz.underlying46 rfl (by rw [hs]; exact info_recp)
section
variable {w:World}
theorem live_is (I:ByteArray) (v:Int) (w:World):Calls Tryz.prog 30 #[.string I,.int .u64 v] w fun e w'=>e=.returned (.agg #[.int .u64 0,.int .u32 0,.int .i64 1,.int .u64 v,.int .u64 9,.string I,.string (bC 118)])∧Below w.heap.size w w':=by
 have hvR:=Tryz.zeroValue46
 have N:Tb.Blk (w.alloc (.cells #[.int .u64 0,.int .u32 0,.int .i64 0,.int .u64 0,.int .u64 0,.string ⟨#[]⟩,.string ⟨#[]⟩] 46)) w.heap.size 46 #[.int .u64 0,.int .u32 0,.int .i64 0,.int .u64 0,.int .u64 0,.string ⟨#[]⟩,.string ⟨#[]⟩]:=Tb.Blk.new w _ _
 have B:=Tb.below1 w (.cells #[.int .u64 0,.int .u32 0,.int .i64 0,.int .u64 0,.int .u64 0,.string ⟨#[]⟩,.string ⟨#[]⟩] 46)
 go_enter Tryz.func30,Tryz.ntmps30
 go_upto_region 1 with fail
 generalize w.alloc (.cells #[.int .u64 0,.int .u32 0,.int .i64 0,.int .u64 0,.int .u64 0,.string ⟨#[]⟩,.string ⟨#[]⟩] 46)=w1 at *
 go_wp2_with (with_reducible refine store_recp rfl (.tmp 4) (.tmp 7) rfl w.heap.size rfl rfl N rfl rfl ?_ ?_)
 ·simp [Value.oneCell']
 exact bodyPost_ret (res_recp1 rfl _ _ w.heap.size rfl (N.row _) rfl) rfl ⟨rfl,Tb.below_row B (Nat.le_refl _) _⟩
end
theorem store_ck {ops:Array Oper} {rest:List Oper} {o:Oper} {a:Act} {w:World} {Q:Exit→Act→World→Prop} (hgd:o.guard=none) (x y:Operand) (ho:o.op=.store 89 x y) (b:Nat) (hx:a.eval x=.pointer (some ⟨b,0,none⟩)) {g e l v:Int} {A:Option Addr} {m p:Nat} {B:Option Addr} {k q:Nat} (hy:a.eval y=.agg #[.int .u64 g,.int .u32 e,.int .u64 l,.int .u64 v,.slice A m p,.slice B k q]) {old:Array Value} {t:TypeId} (hg:Tb.Blk w b t old) (hz:old.size=6)
 (h:wpList Tryz.prog ops Q rest (a.put o.dst undef) (w.setRow b #[.int .u64 g,.int .u32 e,.int .u64 l,.int .u64 v,.slice A m p,.slice B k q])):wpList Tryz.prog ops Q (o :: rest) a w :=
 wpList_store_row hgd _ x y ho b #[.int .u64 g,.int .u32 e,.int .u64 l,.int .u64 v,.slice A m p,.slice B k q] hx hy _ _ hg info_ck hz (ck_one _ _ _ _ _ _ _ _ _ _) h
theorem fix_d1 {u:Tab} {P:Prop} (hu:Tb.dropT fT3 1=some u):P:=by
 have e:Tb.dropT fT3 1=none:=by decide
 rw [e] at hu
 cases hu
theorem sl_one1 (w:World) (T:TypeId) (x:Int):Sl .i64 (w.alloc (.cells #[.int .i64 x] T)) (some ⟨w.heap.size,0,none⟩) 1 [x] :=
 ⟨rfl,fun _=>⟨w.heap.size,0,rfl,(Tb.Blk.new w T #[.int .i64 x]).lt,fun j hj=>by
  obtain rfl:j=0:=by omega
  exact (Tb.Blk.new w T #[.int .i64 x]).cell 0⟩⟩
theorem sl_one_at (w:World) (T:TypeId) (x:Int) {b:Nat} (hb:w.heap.size=b):Sl .i64 (w.alloc (.cells #[.int .i64 x] T)) (some ⟨b,0,none⟩) 1 [x]:=by
 subst hb; exact sl_one1 w T x
theorem sl_oneu_at (w:World) (T:TypeId) (x:Int) {b:Nat} (hb:w.heap.size=b):Sl .u64 (w.alloc (.cells #[.int .u64 x] T)) (some ⟨b,0,none⟩) 1 [x]:=by
 subst hb
 exact ⟨rfl,fun _=>⟨w.heap.size,0,rfl,(Tb.Blk.new w T #[.int .u64 x]).lt,fun j hj=>by
  obtain rfl:j=0:=by omega
  exact (Tb.Blk.new w T #[.int .u64 x]).cell 0⟩⟩
theorem app_fix {W w:World} {items:List Dk.Item} {g d c:Nat} {s s' : St} {t t' : Tab} {ls gn ls' sg so er:Int} (h:Dk.Sep W w (Dk.diskI d s :: PLog g d t ls 1 gn :: items)) (K V D:Int) (I X:ByteArray) (hP:LogP c t s ls gn) (hc:c≤1000) (hA:appS t s ls 1 K V D I X=(s',t',ls',sg,so,er)) (he:er≠9) (l0 e0:Int)
 (hV:0≤V∧V<18446744073709551616) (hD:0≤D∧D<18446744073709551616) (hI:I.size≤1000) (hX:X.size≤1000) :
 Calls Tryz.prog 25 #[.pointer (some ⟨g,0,none⟩),.agg #[.int .u64 l0,.int .u32 e0,.int .i64 K,.int .u64 V,.int .u64 D,.string I,.string X]] w fun e w'=>e=.returned (.tuple #[.agg #[.int .i64 sg,.int .i64 so],.int .i64 er])∧Dk.Sep W w' (Dk.diskI d s' :: PLog g d t' ls' 1 gn :: items):=by
 have g1:=hP.ls1
 have g2:=hP.ls2
 have g3:=hP.pend
 have H:=prg.app h (k:=0) (j:=1) rfl rfl (by decide) l0 e0 K V D I X (by omega) ⟨by decide,by decide⟩ hV hD (by unfold maxLen; omega) (by unfold maxLen; omega) hP.ok hP.fit (by omega)
 rw [hA] at H
 refine H.mono ?_
 rintro e w' ⟨h1,it,h2,h3⟩
 rw [h3 he] at h2
 exact ⟨h1,h2⟩
theorem read_fix {W w:World} {items:List Dk.Item} {g d c:Nat} {s:St} {t:Tab} {ls gn:Int} (h:Dk.Sep W w (Dk.diskI d s :: PLog g d t ls 1 gn :: items)) (seg so:Int) (hP:LogP c t s ls gn) (hc:c≤1000) {cs:Array Value} {er:Int} (hR:readS t s seg so=(cs,er)) :
 Calls Tryz.prog 28 #[.pointer (some ⟨g,0,none⟩),.agg #[.int .i64 seg,.int .i64 so]] w fun e w'=>e=.returned (.tuple #[.agg cs,.int .i64 er])∧Below w.heap.size w w':=by
 have H:=prg.read h (k:=0) (j:=1) rfl rfl (by decide) seg so hP.ok hP.good hP.fit (by have:=hP.pend; omega)
 rw [hR] at H
 exact H
theorem drop_fix {W w:World} {items:List Dk.Item} {g d c:Nat} {s s' : St} {t t' : Tab} {ls gn gn' er:Int} (h:Dk.Sep W w (Dk.diskI d s :: PLog g d t ls 1 gn :: items)) (x ver:Int) {S:ByteArray} (hP:LogP c t s ls gn) (hc:c≤1000) (hS:∀ u,Tb.dropT t x=some u→Cp.secL ⟨gn+1,1,ls,ver,u.o,u.l⟩=S.data.toList) (hA:dropS t x s gn S=(s',t',gn',er)) (he:er≠9) (hv:0≤ver∧ver<18446744073709551616) :
 Calls Tryz.prog 33 #[.pointer (some ⟨g,0,none⟩),.int .i64 x,.int .u64 ver] w fun e w'=>e=.returned (.int .i64 er)∧Dk.Sep W w' (Dk.diskI d s' :: PLog g d t' ls 1 gn' :: items):=by
 have g1:=hP.ls1
 have g2:=hP.ls2
 have g3:=hP.gn1
 have g4:=hP.gn2
 have g5:=hP.pend
 have H:=prg.drop h (k:=0) (j:=1) rfl rfl (by decide) x ver hv (by omega) ⟨by decide,by decide⟩ (by omega) hP.ok hP.size2 (by omega) S hS
 rw [hA] at H
 refine H.mono ?_
 rintro e w' ⟨h1,it,h2,h3⟩
 rw [h3 he] at h2
 exact ⟨h1,h2⟩
set_option maxHeartbeats 32000000 in
theorem fixed_any (w0:World):Calls Tryz.prog 13 #[] w0 fun e w'=>e=.returned (.bool true)∧Below w0.heap.size w0 w':=by
 have hvL:=Tryz.zeroValue67
 have hvR:=Tryz.zeroValue46
 have hvK:=Tryz.zeroValue89
 have hvC:=Tryz.zeroValue24
 obtain ⟨S,HS⟩:∃ S:ByteArray,Hid (Cp.secL ⟨1,1,1,0,[0],[0]⟩=S.data.toList):=⟨⟨(Cp.secL ⟨1,1,1,0,[0],[0]⟩).toArray⟩,Lib.hid (by simp)⟩
 obtain ⟨s0,s1,s2,s3,s4,F,S2,FX⟩:=fix_any S HS.out
 have X:=Lib.hid FX
 clear FX
 go_enter Tryz.func13,Tryz.ntmps13
 have NC:Tb.Blk (w0.alloc (.cells #[.int .i64 0,.int .i64 0,.float .f64 0,.int .i64 0] 24)) w0.heap.size 24 (csF 0 0 0 0):=Tb.Blk.new w0 _ _
 go_upto_region 2 with (with_reducible refine store_cf rfl (.tmp 1) (.tmp 34) rfl w0.heap.size rfl rfl NC ?_; rw [World.setRow_alloc_new])
 have MC:Tb.Blk (w0.alloc (.cells (csF 4 2 4607182418800017408 0) 24)) w0.heap.size 24 (csF 4 2 4607182418800017408 0):=Tb.Blk.new w0 _ _
 have HB0:=Lib.hid (Tb.below1 w0 (.cells (csF 4 2 4607182418800017408 0) 24))
 clear NC
 generalize w0.alloc (.cells (csF 4 2 4607182418800017408 0) 24)=wc at *
 have hwc:Dk.Sep wc wc []:=Dk.Sep.nil (Below.refl _ _)
 generalize w0.heap.size=bc at MC ⊢
 simp only [Act.put]
 have C1:=Lib.hid (made_any prg hwc 14 4 2 0 4607182418800017408 (by decide) S HS.out)
 go_wp2_with (with_reducible refine load_cf rfl (.tmp 1) rfl bc rfl MC ?_)
 refine C1.out.mono ?_
 rintro e' w1 (⟨hn,_⟩ | ⟨_,hE,_⟩ | ⟨_,_,g,d,rfl,h1⟩)
 ·exact absurd hn (by decide)
 ·exact absurd X.out.f1 hE
 rw [X.out.f2] at h1
 change Dk.Sep wc w1 [Dk.diskI d s0,PLog g d fT0 1 1 1] at h1
 replace MC:=MC.later h1.below
 clear C1 hwc
 have C1:=Lib.hid (made_any prg h1 13 4 2 0 4607182418800017408 (by decide) S HS.out)
 clear h1
 go_wp2_with (with_reducible refine load_cf rfl (.tmp 1) rfl bc rfl MC ?_)
 refine C1.out.mono ?_
 rintro e' w2 (⟨hn,_⟩ | ⟨_,_,d2,rfl,h2⟩ | ⟨_,hE,_⟩)
 ·exact absurd hn (by decide)
 rotate_left
 ·rw [X.out.f3] at hE; exact absurd hE (by decide)
 rw [X.out.f3]
 obtain ⟨z2,hz2⟩:∃ z,fmtD (St.new 13) 4 2 4607182418800017408 0 S=z:=⟨_,rfl⟩
 rw [hz2] at h2
 change Dk.Sep wc w2 [Dk.diskI d s0,PLog g d fT0 1 1 1,Dk.diskI d2 z2] at h2
 clear C1 MC hz2
 have C1:=Lib.hid (made_any prg h2 14 0 0 0 0 (by decide) S HS.out)
 clear h2
 go_wp2_with fail
 refine C1.out.mono ?_
 rintro e' w3 (⟨hn,_⟩ | ⟨_,_,d3,rfl,h3⟩ | ⟨_,hE,_⟩)
 ·exact absurd hn (by decide)
 rotate_left
 ·rw [X.out.f4] at hE; exact absurd hE (by decide)
 rw [X.out.f4]
 obtain ⟨z3,hz3⟩:∃ z,fmtD (St.new 14) 0 0 0 0 S=z:=⟨_,rfl⟩
 rw [hz3] at h3
 change Dk.Sep wc w3 [Dk.diskI d s0,PLog g d fT0 1 1 1,Dk.diskI d2 z2,Dk.diskI d3 z3] at h3
 clear C1 hz3
 go_wp2_with fail
 refine (live_is ⟨#[97]⟩ 1 w3).mono ?_
 rintro e' w4 ⟨rfl,hb⟩
 have h4:=h3.later hb
 clear h3 hb
 have C1:=Lib.hid (app_fix h4 1 1 9 (bC 97) (bC 118) X.out.l0 (by decide) X.out.a1 (by decide) 0 0 ⟨by decide,by decide⟩ ⟨by decide,by decide⟩ (by decide) (by decide))
 clear h4
 go_wp2_with fail
 refine C1.out.mono ?_
 rintro e' w5 ⟨rfl,h5⟩
 clear C1
 change Dk.Sep wc w5 [Dk.diskI d s1,PLog g d fT1 2 1 1,Dk.diskI d2 z2,Dk.diskI d3 z3] at h5
 have N11:Tb.Blk (w5.alloc (.cells #[.int .i64 0,.int .i64 0] 67)) w5.heap.size 67 #[.int .i64 0,.int .i64 0]:=Tb.Blk.new w5 _ _
 go_upto_region 8 with (with_reducible refine store_loc rfl (.tmp 11) (.tmp 67) rfl w5.heap.size rfl rfl N11 ?_; rw [World.setRow_alloc_new])
 have M11:Tb.Blk (w5.alloc (.cells #[.int .i64 0,.int .i64 0] 67)) w5.heap.size 67 #[.int .i64 0,.int .i64 0]:=Tb.Blk.new w5 _ _
 have h6:=loc_new (l:=[(w5.heap.size,67,#[.int .i64 0,.int .i64 0])]) h5 (Tb.below1 w5 (.cells #[.int .i64 0,.int .i64 0] 67)) (fun x hx=>by rcases List.mem_cons.1 hx with rfl|hx; exact M11; cases hx) (fun x hx=>by rcases List.mem_cons.1 hx with rfl|hx; exact Nat.le_refl _; cases hx)
 clear N11 M11 h5
 generalize w5.alloc (.cells #[.int .i64 0,.int .i64 0] 67)=w6 at *
 generalize w5.heap.size=b11 at *
 change Dk.Sep wc w6 [Dk.diskI d s1,PLog g d fT1 2 1 1,Dk.diskI d2 z2,Dk.diskI d3 z3,locI [(b11,67,#[.int .i64 0,.int .i64 0])]] at h6
 go_wp2_with fail
 refine (live_is ⟨#[98]⟩ 2 w6).mono ?_
 rintro e' w7 ⟨rfl,hb⟩
 have h7:=h6.later hb
 clear h6 hb
 have C1:=Lib.hid (app_fix h7 1 2 9 (bC 98) (bC 118) X.out.l1 (by decide) X.out.a2 (by decide) 0 0 ⟨by decide,by decide⟩ ⟨by decide,by decide⟩ (by decide) (by decide))
 clear h7
 go_wp2_with fail
 refine C1.out.mono ?_
 rintro e' w8 ⟨rfl,h8⟩
 clear C1
 change Dk.Sep wc w8 [Dk.diskI d s2,PLog g d fT2 3 1 1,Dk.diskI d2 z2,Dk.diskI d3 z3,locI [(b11,67,#[.int .i64 0,.int .i64 0])]] at h8
 have N13:Tb.Blk (w8.alloc (.cells #[.int .i64 0,.int .i64 0] 67)) w8.heap.size 67 #[.int .i64 0,.int .i64 0]:=Tb.Blk.new w8 _ _
 go_upto_region 9 with (with_reducible refine store_loc rfl (.tmp 13) (.tmp 73) rfl w8.heap.size rfl rfl N13 ?_; rw [World.setRow_alloc_new])
 have M13:Tb.Blk (w8.alloc (.cells #[.int .i64 0,.int .i64 1] 67)) w8.heap.size 67 #[.int .i64 0,.int .i64 1]:=Tb.Blk.new w8 _ _
 have h9:=loc_new (l:=[(w8.heap.size,67,#[.int .i64 0,.int .i64 1])]) h8 (Tb.below1 w8 (.cells #[.int .i64 0,.int .i64 1] 67)) (fun x hx=>by rcases List.mem_cons.1 hx with rfl|hx; exact M13; cases hx) (fun x hx=>by rcases List.mem_cons.1 hx with rfl|hx; exact Nat.le_refl _; cases hx)
 clear N13 M13 h8
 generalize w8.alloc (.cells #[.int .i64 0,.int .i64 1] 67)=w9 at *
 generalize w8.heap.size=b13 at *
 change Dk.Sep wc w9 [Dk.diskI d s2,PLog g d fT2 3 1 1,Dk.diskI d2 z2,Dk.diskI d3 z3,locI [(b11,67,#[.int .i64 0,.int .i64 0])],locI [(b13,67,#[.int .i64 0,.int .i64 1])]] at h9
 go_wp2_with fail
 refine (live_is ⟨#[99]⟩ 3 w9).mono ?_
 rintro e' w10 ⟨rfl,hb⟩
 have h10:=h9.later hb
 clear h9 hb
 have C1:=Lib.hid (app_fix h10 1 3 9 (bC 99) (bC 118) X.out.l2 (by decide) X.out.a3 (by decide) 0 0 ⟨by decide,by decide⟩ ⟨by decide,by decide⟩ (by decide) (by decide))
 clear h10
 go_wp2_with fail
 refine C1.out.mono ?_
 rintro e' w11 ⟨rfl,h11⟩
 clear C1
 change Dk.Sep wc w11 [Dk.diskI d s3,PLog g d fT3 5 1 1,Dk.diskI d2 z2,Dk.diskI d3 z3,locI [(b11,67,#[.int .i64 0,.int .i64 0])],locI [(b13,67,#[.int .i64 0,.int .i64 1])]] at h11
 have N15:Tb.Blk (w11.alloc (.cells #[.int .i64 0,.int .i64 0] 67)) w11.heap.size 67 #[.int .i64 0,.int .i64 0]:=Tb.Blk.new w11 _ _
 go_upto_region 10 with (with_reducible refine store_loc rfl (.tmp 15) (.tmp 79) rfl w11.heap.size rfl rfl N15 ?_; rw [World.setRow_alloc_new])
 have M15:Tb.Blk (w11.alloc (.cells #[.int .i64 1,.int .i64 0] 67)) w11.heap.size 67 #[.int .i64 1,.int .i64 0]:=Tb.Blk.new w11 _ _
 have h12:=loc_new (l:=[(w11.heap.size,67,#[.int .i64 1,.int .i64 0])]) h11 (Tb.below1 w11 (.cells #[.int .i64 1,.int .i64 0] 67)) (fun x hx=>by rcases List.mem_cons.1 hx with rfl|hx; exact M15; cases hx) (fun x hx=>by rcases List.mem_cons.1 hx with rfl|hx; exact Nat.le_refl _; cases hx)
 clear N15 M15 h11
 generalize w11.alloc (.cells #[.int .i64 1,.int .i64 0] 67)=w12 at *
 generalize w11.heap.size=b15 at *
 change Dk.Sep wc w12 [Dk.diskI d s3,PLog g d fT3 5 1 1,Dk.diskI d2 z2,Dk.diskI d3 z3,locI [(b11,67,#[.int .i64 0,.int .i64 0])],locI [(b13,67,#[.int .i64 0,.int .i64 1])],locI [(b15,67,#[.int .i64 1,.int .i64 0])]] at h12
 have C1:=Lib.hid (app_fix h12 3 0 0 bE bE X.out.l3 (by decide) X.out.a4 (by decide) 0 0 ⟨by decide,by decide⟩ ⟨by decide,by decide⟩ (by decide) (by decide))
 clear h12
 go_wp2_with fail
 refine C1.out.mono ?_
 rintro e' w13 ⟨rfl,h13⟩
 clear C1
 change Dk.Sep wc w13 [Dk.diskI d s3,PLog g d fT3 5 1 1,Dk.diskI d2 z2,Dk.diskI d3 z3,locI [(b11,67,#[.int .i64 0,.int .i64 0])],locI [(b13,67,#[.int .i64 0,.int .i64 1])],locI [(b15,67,#[.int .i64 1,.int .i64 0])]] at h13
 have N17:Tb.Blk (w13.alloc (.cells #[.int .i64 0,.int .i64 0] 67)) w13.heap.size 67 #[.int .i64 0,.int .i64 0]:=Tb.Blk.new w13 _ _
 go_upto_region 11 with (with_reducible refine store_loc rfl (.tmp 17) (.tmp 85) rfl w13.heap.size rfl rfl N17 ?_; rw [World.setRow_alloc_new])
 have M17:Tb.Blk (w13.alloc (.cells #[.int .i64 0,.int .i64 0] 67)) w13.heap.size 67 #[.int .i64 0,.int .i64 0]:=Tb.Blk.new w13 _ _
 have h14:=loc_new (l:=[(w13.heap.size,67,#[.int .i64 0,.int .i64 0])]) h13 (Tb.below1 w13 (.cells #[.int .i64 0,.int .i64 0] 67)) (fun x hx=>by rcases List.mem_cons.1 hx with rfl|hx; exact M17; cases hx) (fun x hx=>by rcases List.mem_cons.1 hx with rfl|hx; exact Nat.le_refl _; cases hx)
 clear N17 M17 h13
 generalize w13.alloc (.cells #[.int .i64 0,.int .i64 0] 67)=w14 at *
 generalize w13.heap.size=b17 at *
 change Dk.Sep wc w14 [Dk.diskI d s3,PLog g d fT3 5 1 1,Dk.diskI d2 z2,Dk.diskI d3 z3,locI [(b11,67,#[.int .i64 0,.int .i64 0])],locI [(b13,67,#[.int .i64 0,.int .i64 1])],locI [(b15,67,#[.int .i64 1,.int .i64 0])],locI [(b17,67,#[.int .i64 0,.int .i64 0])]] at h14
 have M15:Tb.Blk w14 b15 67 #[.int .i64 1,.int .i64 0]:=loc_at (k:=6) h14 rfl _ (List.mem_cons_self ..)
 have C1:=Lib.hid (read_fix (cs:=#[.int .u64 4,.int .u32 1,.int .i64 1,.int .u64 3,.int .u64 9,.string (bC 99),.string (bC 118)]) h14 1 0 X.out.l3 (by decide) X.out.r1)
 go_wp2_with (with_reducible refine load_loc rfl (.tmp 15) rfl b15 rfl M15 ?_)
 clear M15
 refine C1.out.mono ?_
 rintro e' w15 ⟨rfl,hb⟩
 have h15:=h14.later hb
 clear C1 hb h14
 have N19:Tb.Blk (w15.alloc (.cells #[.int .u64 0,.int .u32 0,.int .i64 0,.int .u64 0,.int .u64 0,.string ⟨#[]⟩,.string ⟨#[]⟩] 46)) w15.heap.size 46 #[.int .u64 0,.int .u32 0,.int .i64 0,.int .u64 0,.int .u64 0,.string ⟨#[]⟩,.string ⟨#[]⟩]:=Tb.Blk.new w15 _ _
 go_upto_region 12 with (with_reducible refine store_recp rfl (.tmp 19) (.tmp 91) rfl w15.heap.size rfl rfl N19 rfl rfl rfl ?_; rw [World.setRow_alloc_new])
 have M19:Tb.Blk (w15.alloc (.cells #[.int .u64 4,.int .u32 1,.int .i64 1,.int .u64 3,.int .u64 9,.string (bC 99),.string (bC 118)] 46)) w15.heap.size 46 #[.int .u64 4,.int .u32 1,.int .i64 1,.int .u64 3,.int .u64 9,.string (bC 99),.string (bC 118)]:=Tb.Blk.new w15 _ _
 have h16:=loc_new (l:=[(w15.heap.size,46,#[.int .u64 4,.int .u32 1,.int .i64 1,.int .u64 3,.int .u64 9,.string (bC 99),.string (bC 118)])]) h15 (Tb.below1 w15 (.cells #[.int .u64 4,.int .u32 1,.int .i64 1,.int .u64 3,.int .u64 9,.string (bC 99),.string (bC 118)] 46)) (fun x hx=>by rcases List.mem_cons.1 hx with rfl|hx; exact M19; cases hx) (fun x hx=>by rcases List.mem_cons.1 hx with rfl|hx; exact Nat.le_refl _; cases hx)
 clear N19 M19 h15
 generalize w15.alloc (.cells #[.int .u64 4,.int .u32 1,.int .i64 1,.int .u64 3,.int .u64 9,.string (bC 99),.string (bC 118)] 46)=w16 at *
 generalize w15.heap.size=b19 at *
 change Dk.Sep wc w16 [Dk.diskI d s3,PLog g d fT3 5 1 1,Dk.diskI d2 z2,Dk.diskI d3 z3,locI [(b11,67,#[.int .i64 0,.int .i64 0])],locI [(b13,67,#[.int .i64 0,.int .i64 1])],locI [(b15,67,#[.int .i64 1,.int .i64 0])],locI [(b17,67,#[.int .i64 0,.int .i64 0])],locI [(b19,46,#[.int .u64 4,.int .u32 1,.int .i64 1,.int .u64 3,.int .u64 9,.string (bC 99),.string (bC 118)])]] at h16
 have C1:=Lib.hid (read_fix (cs:=#[.int .u64 0,.int .u32 0,.int .i64 0,.int .u64 0,.int .u64 0,.string ⟨#[]⟩,.string ⟨#[]⟩]) h16 0 2 X.out.l3 (by decide) X.out.r2)
 go_wp2_with fail
 refine C1.out.mono ?_
 rintro e' w17 ⟨rfl,hb⟩
 have h17:=h16.later hb
 clear C1 hb h16
 have N21:Tb.Blk (w17.alloc (.cells #[.int .u64 0,.int .u32 0,.int .i64 0,.int .u64 0,.int .u64 0,.string ⟨#[]⟩,.string ⟨#[]⟩] 46)) w17.heap.size 46 #[.int .u64 0,.int .u32 0,.int .i64 0,.int .u64 0,.int .u64 0,.string ⟨#[]⟩,.string ⟨#[]⟩]:=Tb.Blk.new w17 _ _
 go_upto_region 13 with (with_reducible refine store_recp rfl (.tmp 21) (.tmp 97) rfl w17.heap.size rfl rfl N21 rfl rfl rfl ?_; rw [World.setRow_alloc_new])
 have M21:Tb.Blk (w17.alloc (.cells #[.int .u64 0,.int .u32 0,.int .i64 0,.int .u64 0,.int .u64 0,.string ⟨#[]⟩,.string ⟨#[]⟩] 46)) w17.heap.size 46 #[.int .u64 0,.int .u32 0,.int .i64 0,.int .u64 0,.int .u64 0,.string ⟨#[]⟩,.string ⟨#[]⟩]:=Tb.Blk.new w17 _ _
 have h18:=loc_new (l:=[(w17.heap.size,46,#[.int .u64 0,.int .u32 0,.int .i64 0,.int .u64 0,.int .u64 0,.string ⟨#[]⟩,.string ⟨#[]⟩])]) h17 (Tb.below1 w17 (.cells #[.int .u64 0,.int .u32 0,.int .i64 0,.int .u64 0,.int .u64 0,.string ⟨#[]⟩,.string ⟨#[]⟩] 46)) (fun x hx=>by rcases List.mem_cons.1 hx with rfl|hx; exact M21; cases hx) (fun x hx=>by rcases List.mem_cons.1 hx with rfl|hx; exact Nat.le_refl _; cases hx)
 clear N21 M21 h17
 generalize w17.alloc (.cells #[.int .u64 0,.int .u32 0,.int .i64 0,.int .u64 0,.int .u64 0,.string ⟨#[]⟩,.string ⟨#[]⟩] 46)=w18 at *
 generalize w17.heap.size=b21 at *
 change Dk.Sep wc w18 [Dk.diskI d s3,PLog g d fT3 5 1 1,Dk.diskI d2 z2,Dk.diskI d3 z3,locI [(b11,67,#[.int .i64 0,.int .i64 0])],locI [(b13,67,#[.int .i64 0,.int .i64 1])],locI [(b15,67,#[.int .i64 1,.int .i64 0])],locI [(b17,67,#[.int .i64 0,.int .i64 0])],locI [(b19,46,#[.int .u64 4,.int .u32 1,.int .i64 1,.int .u64 3,.int .u64 9,.string (bC 99),.string (bC 118)])],locI [(b21,46,#[.int .u64 0,.int .u32 0,.int .i64 0,.int .u64 0,.int .u64 0,.string ⟨#[]⟩,.string ⟨#[]⟩])]] at h18
 have C1:=Lib.hid (Dk.read_s h18 0 rfl 4 ⟨by decide,by have h2:2≤s3.size:=X.out.l3.size2; have h3:=X.out.l3.fit; unfold FitS at h3; exact Int.lt_of_lt_of_le (by decide) h3⟩ F X.out.c4)
 clear h18
 go_wp2_with fail
 refine C1.out.mono ?_
 rintro e' w19 ⟨rfl,h19⟩
 clear C1
 have C1:=Lib.hid (pdecode_any F w19 (by rw [← X.out.c4,Dk.cur_size X.out.l3.good]; decide))
 rw [X.out.k1,X.out.k2] at C1
 go_wp2_with fail
 refine C1.out.mono ?_
 rintro e' w20 ⟨rfl,hb⟩
 have h20:=h19.later hb
 clear C1 hb h19
 have N25:Tb.Blk (w20.alloc (.cells #[.int .u64 0,.int .u32 0,.int .i64 0,.int .u64 0,.int .u64 0,.string ⟨#[]⟩,.string ⟨#[]⟩] 46)) w20.heap.size 46 #[.int .u64 0,.int .u32 0,.int .i64 0,.int .u64 0,.int .u64 0,.string ⟨#[]⟩,.string ⟨#[]⟩]:=Tb.Blk.new w20 _ _
 go_upto_region 15 with (with_reducible refine store_recp rfl (.tmp 25) (.tmp 107) rfl w20.heap.size rfl rfl N25 rfl rfl rfl ?_; rw [World.setRow_alloc_new])
 have M25:Tb.Blk (w20.alloc (.cells #[.int .u64 3,.int .u32 1,.int .i64 3,.int .u64 0,.int .u64 1,.string ⟨#[]⟩,.string ⟨#[]⟩] 46)) w20.heap.size 46 #[.int .u64 3,.int .u32 1,.int .i64 3,.int .u64 0,.int .u64 1,.string ⟨#[]⟩,.string ⟨#[]⟩]:=Tb.Blk.new w20 _ _
 have h21:=loc_new (l:=[(w20.heap.size,46,#[.int .u64 3,.int .u32 1,.int .i64 3,.int .u64 0,.int .u64 1,.string ⟨#[]⟩,.string ⟨#[]⟩])]) h20 (Tb.below1 w20 (.cells #[.int .u64 3,.int .u32 1,.int .i64 3,.int .u64 0,.int .u64 1,.string ⟨#[]⟩,.string ⟨#[]⟩] 46)) (fun x hx=>by rcases List.mem_cons.1 hx with rfl|hx; exact M25; cases hx) (fun x hx=>by rcases List.mem_cons.1 hx with rfl|hx; exact Nat.le_refl _; cases hx)
 clear N25 M25 h20
 generalize w20.alloc (.cells #[.int .u64 3,.int .u32 1,.int .i64 3,.int .u64 0,.int .u64 1,.string ⟨#[]⟩,.string ⟨#[]⟩] 46)=w21 at *
 generalize w20.heap.size=b25 at *
 change Dk.Sep wc w21 [Dk.diskI d s3,PLog g d fT3 5 1 1,Dk.diskI d2 z2,Dk.diskI d3 z3,locI [(b11,67,#[.int .i64 0,.int .i64 0])],locI [(b13,67,#[.int .i64 0,.int .i64 1])],locI [(b15,67,#[.int .i64 1,.int .i64 0])],locI [(b17,67,#[.int .i64 0,.int .i64 0])],locI [(b19,46,#[.int .u64 4,.int .u32 1,.int .i64 1,.int .u64 3,.int .u64 9,.string (bC 99),.string (bC 118)])],locI [(b21,46,#[.int .u64 0,.int .u32 0,.int .i64 0,.int .u64 0,.int .u64 0,.string ⟨#[]⟩,.string ⟨#[]⟩])],locI [(b25,46,#[.int .u64 3,.int .u32 1,.int .i64 3,.int .u64 0,.int .u64 1,.string ⟨#[]⟩,.string ⟨#[]⟩])]] at h21
 have C1:=Lib.hid (Dk.pending_s h21 0 rfl 4 (by rw [X.out.p4]; rfl))
 clear h21
 go_wp2_with fail
 refine C1.out.mono ?_
 rintro e' w22 ⟨rfl,h22⟩
 clear C1
 have C1:=Lib.hid (drop_fix h22 1 3 (S:=S2) X.out.l3 (by decide) (fun u hu=>fix_d1 hu) X.out.d1 (by decide) ⟨by decide,by decide⟩)
 clear h22
 go_wp2_with fail
 refine C1.out.mono ?_
 rintro e' w23 ⟨rfl,h23⟩
 clear C1
 change Dk.Sep wc w23 [Dk.diskI d s3,PLog g d fT3 5 1 1,Dk.diskI d2 z2,Dk.diskI d3 z3,locI [(b11,67,#[.int .i64 0,.int .i64 0])],locI [(b13,67,#[.int .i64 0,.int .i64 1])],locI [(b15,67,#[.int .i64 1,.int .i64 0])],locI [(b17,67,#[.int .i64 0,.int .i64 0])],locI [(b19,46,#[.int .u64 4,.int .u32 1,.int .i64 1,.int .u64 3,.int .u64 9,.string (bC 99),.string (bC 118)])],locI [(b21,46,#[.int .u64 0,.int .u32 0,.int .i64 0,.int .u64 0,.int .u64 0,.string ⟨#[]⟩,.string ⟨#[]⟩])],locI [(b25,46,#[.int .u64 3,.int .u32 1,.int .i64 3,.int .u64 0,.int .u64 1,.string ⟨#[]⟩,.string ⟨#[]⟩])]] at h23
 have C1:=Lib.hid (drop_fix h23 0 3 (S:=S2) X.out.l3 (by decide) (fun u hu=>by rw [X.out.d2] at hu; injection hu with hu; subst hu; exact X.out.e1) X.out.d3 (by decide) ⟨by decide,by decide⟩)
 clear h23
 go_wp2_with fail
 refine C1.out.mono ?_
 rintro e' w24 ⟨rfl,h24⟩
 clear C1
 change Dk.Sep wc w24 [Dk.diskI d s4,PLog g d fT4 5 1 2,Dk.diskI d2 z2,Dk.diskI d3 z3,locI [(b11,67,#[.int .i64 0,.int .i64 0])],locI [(b13,67,#[.int .i64 0,.int .i64 1])],locI [(b15,67,#[.int .i64 1,.int .i64 0])],locI [(b17,67,#[.int .i64 0,.int .i64 0])],locI [(b19,46,#[.int .u64 4,.int .u32 1,.int .i64 1,.int .u64 3,.int .u64 9,.string (bC 99),.string (bC 118)])],locI [(b21,46,#[.int .u64 0,.int .u32 0,.int .i64 0,.int .u64 0,.int .u64 0,.string ⟨#[]⟩,.string ⟨#[]⟩])],locI [(b25,46,#[.int .u64 3,.int .u32 1,.int .i64 3,.int .u64 0,.int .u64 1,.string ⟨#[]⟩,.string ⟨#[]⟩])]] at h24
 have C1:=Lib.hid (Dk.read_s h24 0 rfl 0 ⟨by decide,by have h2:2≤s4.size:=X.out.l4.size2; have h3:=X.out.l4.fit; unfold FitS at h3; exact Int.lt_of_lt_of_le (by decide) h3⟩ S2 X.out.c0)
 clear h24
 go_wp2_with fail
 refine C1.out.mono ?_
 rintro e' w25 ⟨rfl,h25⟩
 clear C1
 have C1:=Lib.hid (Cp.decode_any S2 w25 (by rw [← X.out.c0,Dk.cur_size X.out.l4.good]; decide))
 go_wp2_with fail
 refine C1.out.mono ?_
 rintro e' w26 ⟨hb,xx,rfl,hx⟩
 rw [X.out.m1] at hx
 rw [X.out.m2]
 obtain ⟨A,m,p,B,k,q,rfl,SA,SB,_,_⟩:=hx
 have h26:=h25.later hb
 clear C1 hb h25
 change Cp.Sl w26 A m [1] at SA
 change Cp.Sl w26 B k [1] at SB
 replace SA:=SA.later (Tb.below1 w26 (.cells #[.int .u64 2,.int .u32 1,.int .u64 5,.int .u64 3,.slice A m p,.slice B k q] 89))
 replace SB:=SB.later (Tb.below1 w26 (.cells #[.int .u64 2,.int .u32 1,.int .u64 5,.int .u64 3,.slice A m p,.slice B k q] 89))
 have N32:Tb.Blk (w26.alloc (.cells #[.int .u64 0,.int .u32 0,.int .u64 0,.int .u64 0,.slice none 0 0,.slice none 0 0] 89)) w26.heap.size 89 #[.int .u64 0,.int .u32 0,.int .u64 0,.int .u64 0,.slice none 0 0,.slice none 0 0]:=Tb.Blk.new w26 _ _
 go_upto_region 20 with (with_reducible refine store_ck rfl (.tmp 32) (.tmp 123) rfl w26.heap.size rfl rfl N32 rfl ?_; rw [World.setRow_alloc_new])
 have M32:Tb.Blk (w26.alloc (.cells #[.int .u64 2,.int .u32 1,.int .u64 5,.int .u64 3,.slice A m p,.slice B k q] 89)) w26.heap.size 89 #[.int .u64 2,.int .u32 1,.int .u64 5,.int .u64 3,.slice A m p,.slice B k q]:=Tb.Blk.new w26 _ _
 have h27:=loc_new (l:=[(w26.heap.size,89,#[.int .u64 2,.int .u32 1,.int .u64 5,.int .u64 3,.slice A m p,.slice B k q])]) h26 (Tb.below1 w26 (.cells #[.int .u64 2,.int .u32 1,.int .u64 5,.int .u64 3,.slice A m p,.slice B k q] 89)) (fun x hx=>by rcases List.mem_cons.1 hx with rfl|hx; exact M32; cases hx) (fun x hx=>by rcases List.mem_cons.1 hx with rfl|hx; exact Nat.le_refl _; cases hx)
 clear N32 M32 h26
 generalize w26.alloc (.cells #[.int .u64 2,.int .u32 1,.int .u64 5,.int .u64 3,.slice A m p,.slice B k q] 89)=w27 at *
 generalize w26.heap.size=b32 at *
 change Dk.Sep wc w27 [Dk.diskI d s4,PLog g d fT4 5 1 2,Dk.diskI d2 z2,Dk.diskI d3 z3,locI [(b11,67,#[.int .i64 0,.int .i64 0])],locI [(b13,67,#[.int .i64 0,.int .i64 1])],locI [(b15,67,#[.int .i64 1,.int .i64 0])],locI [(b17,67,#[.int .i64 0,.int .i64 0])],locI [(b19,46,#[.int .u64 4,.int .u32 1,.int .i64 1,.int .u64 3,.int .u64 9,.string (bC 99),.string (bC 118)])],locI [(b21,46,#[.int .u64 0,.int .u32 0,.int .i64 0,.int .u64 0,.int .u64 0,.string ⟨#[]⟩,.string ⟨#[]⟩])],locI [(b25,46,#[.int .u64 3,.int .u32 1,.int .i64 3,.int .u64 0,.int .u64 1,.string ⟨#[]⟩,.string ⟨#[]⟩])],locI [(b32,89,#[.int .u64 2,.int .u32 1,.int .u64 5,.int .u64 3,.slice A m p,.slice B k q])]] at h27
 have M11:Tb.Blk w27 b11 67 #[.int .i64 0,.int .i64 0]:=loc_at (k:=4) h27 rfl _ (List.mem_cons_self ..)
 have M13:Tb.Blk w27 b13 67 #[.int .i64 0,.int .i64 1]:=loc_at (k:=5) h27 rfl _ (List.mem_cons_self ..)
 have M15:Tb.Blk w27 b15 67 #[.int .i64 1,.int .i64 0]:=loc_at (k:=6) h27 rfl _ (List.mem_cons_self ..)
 have M19:Tb.Blk w27 b19 46 #[.int .u64 4,.int .u32 1,.int .i64 1,.int .u64 3,.int .u64 9,.string (bC 99),.string (bC 118)]:=loc_at (k:=8) h27 rfl _ (List.mem_cons_self ..)
 have M25:Tb.Blk w27 b25 46 #[.int .u64 3,.int .u32 1,.int .i64 3,.int .u64 0,.int .u64 1,.string ⟨#[]⟩,.string ⟨#[]⟩]:=loc_at (k:=10) h27 rfl _ (List.mem_cons_self ..)
 have M32:Tb.Blk w27 b32 89 #[.int .u64 2,.int .u32 1,.int .u64 5,.int .u64 3,.slice A m p,.slice B k q]:=loc_at (k:=11) h27 rfl _ (List.mem_cons_self ..)
 have c11_0:w27.cell? ⟨b11,0,none⟩=some (.int .i64 0):=M11.cell 0
 have c11_1:w27.cell? ⟨b11,1,none⟩=some (.int .i64 0):=M11.cell 1
 have c13_0:w27.cell? ⟨b13,0,none⟩=some (.int .i64 0):=M13.cell 0
 have c13_1:w27.cell? ⟨b13,1,none⟩=some (.int .i64 1):=M13.cell 1
 have c15_0:w27.cell? ⟨b15,0,none⟩=some (.int .i64 1):=M15.cell 0
 have c15_1:w27.cell? ⟨b15,1,none⟩=some (.int .i64 0):=M15.cell 1
 have c25_0:w27.cell? ⟨b25,0,none⟩=some (.int .u64 3):=M25.cell 0
 have c25_2:w27.cell? ⟨b25,2,none⟩=some (.int .i64 3):=M25.cell 2
 have c25_4:w27.cell? ⟨b25,4,none⟩=some (.int .u64 1):=M25.cell 4
 go_upto_region 22 with fail
 clear c11_0 c11_1 c13_0 c13_1 c15_0 c15_1 c25_0 c25_2 c25_4
 have c19_0:w27.cell? ⟨b19,0,none⟩=some (.int .u64 4):=M19.cell 0
 have c19_5:w27.cell? ⟨b19,5,none⟩=some (.string ⟨#[99]⟩):=M19.cell 5
 have c32_0:w27.cell? ⟨b32,0,none⟩=some (.int .u64 2):=M32.cell 0
 have c32_2:w27.cell? ⟨b32,2,none⟩=some (.int .u64 5):=M32.cell 2
 have c32_3:w27.cell? ⟨b32,3,none⟩=some (.int .u64 3):=M32.cell 3
 have c32_4:w27.cell? ⟨b32,4,none⟩=some (.slice A m p):=M32.cell 4
 have SA1:Sl .i64 w27 A m [1]:=⟨SA.len,SA.cells⟩
 have SB1:Sl .i64 w27 B k [1]:=⟨SB.len,SB.cells⟩
 have hm:m≤maxLen:=by have:=SA1.len; simp at this; unfold maxLen; omega
 have hk:k≤maxLen:=by have:=SB1.len; simp at this; unfold maxLen; omega
 have HI1:=Lib.hid (Tb.ints_yes A m p (some ⟨w27.heap.size,0,none⟩) 1 1 [1] _ (SA1.later (Tb.below1 w27 (.cells #[.int .i64 1] 3))) (sl_one1 w27 3 1) hm)
 have HB1:=Lib.hid (Tb.below1 w27 (.cells #[.int .i64 1] 3))
 clear SA SB SA1 hm
 dsimp only [List.append]
 go_wp2_with fail
 refine HI1.out.mono ?_
 rintro e' v1 ⟨rfl,hb⟩
 have B1:=HB1.out.trans (hb.mono HB1.out.size)
 have c32_5:v1.cell? ⟨b32,5,none⟩=some (.slice B k q):=(M32.later B1).cell 5
 have HI2:=Lib.hid (Tb.ints_yes B k q (some ⟨v1.heap.size,0,none⟩) 1 1 [1] _ ((SB1.later B1).later (Tb.below1 v1 (.cells #[.int .i64 1] 3))) (sl_one1 v1 3 1) hk)
 have HB2:=Lib.hid (B1.trans ((Tb.below1 v1 (.cells #[.int .i64 1] 3)).mono B1.size))
 clear HI1 HB1 hb B1 SB1 hk
 go_wp2_with fail
 refine HI2.out.mono ?_
 rintro e' v2 ⟨rfl,hb⟩
 have B2:=HB2.out.trans (hb.mono HB2.out.size)
 have H2:=h27.later B2
 have HC:=Lib.hid (prg.gen H2 (j:=1) rfl)
 have HH:=Lib.hid h27
 clear h27 HI2 HB2 hb c32_5 M11 M13 M15 M19 M25 M32
 go_wp2_with fail
 refine HC.out.mono ?_
 rintro e' v3 ⟨rfl,hb⟩
 replace H2:=H2.later hb
 replace HC:=Lib.hid (prg.lsn H2 (j:=1) rfl)
 clear hb B2
 go_wp2_with fail
 refine HC.out.mono ?_
 rintro e' v4 ⟨rfl,hb⟩
 replace H2:=H2.later hb
 replace HC:=Lib.hid (prg.epoch H2 (j:=1) rfl)
 clear hb
 go_wp2_with fail
 refine HC.out.mono ?_
 rintro e' v5 ⟨rfl,hb⟩
 replace H2:=H2.later hb
 replace HC:=Lib.hid (prg.tab H2 (j:=1) rfl)
 clear hb
 go_wp2_with fail
 refine HC.out.mono ?_
 rintro e' v6 ⟨A1,m1,p1,B1,k1,q1,C1,n1,r1,W1,rfl,ht,_,hb⟩
 replace H2:=H2.later hb
 change TIn v6 A1 m1 B1 k1 C1 n1 [1] [1] [4] at ht
 rw [show fT4.sg=4 from rfl,show fT4.st=2 from rfl]
 clear hb HC
 go_wp2_with fail
 refine (Tb.ref_any 4 2 A1 m1 p1 B1 k1 q1 C1 n1 r1 v6).mono ?_
 rintro e' v7 ⟨rfl,hb⟩
 replace H2:=H2.later hb
 replace ht:=ht.later hb
 clear hb
 have hz7:v7.heap.size+1+1=v7.heap.size+1+1:=rfl
 have K1:=sl_one1 v7 3 1
 have K2:=sl_one_at (v7.alloc (.cells #[.int .i64 1] 3)) 3 1 (b:=v7.heap.size+1) (by simp)
 have K3:=sl_oneu_at ((v7.alloc (.cells #[.int .i64 1] 3)).alloc (.cells #[.int .i64 1] 3)) 43 4 (b:=v7.heap.size+1+1) (by simp)
 have bb1:=Tb.below1 v7 (.cells #[.int .i64 1] 3)
 have bb2:=Tb.below1 (v7.alloc (.cells #[.int .i64 1] 3)) (.cells #[.int .i64 1] 3)
 have bb3:=Tb.below1 ((v7.alloc (.cells #[.int .i64 1] 3)).alloc (.cells #[.int .i64 1] 3)) (.cells #[.int .u64 4] 43)
 have hl1:m1≤maxLen:=by have:=ht.a.len; simp at this; unfold maxLen; omega
 have hl2:k1≤maxLen:=by have:=ht.b.len; simp at this; unfold maxLen; omega
 have hl3:n1≤maxLen:=by have:=ht.c.len; simp at this; unfold maxLen; omega
 have HSM:=Lib.hid (Tb.same_yes 4 2 A1 m1 p1 B1 k1 q1 C1 n1 r1 (some ⟨v7.heap.size,0,none⟩) 1 1 (some ⟨v7.heap.size+1,0,none⟩) 1 1 (some ⟨v7.heap.size+1+1,0,none⟩) 1 1 [1] [1] [4] _ (((ht.later bb1).later bb2).later bb3) ⟨(K1.later bb2).later bb3,K2.later bb3,K3⟩ hl1 hl2 hl3)
 have H3:=Lib.hid (((H2.later bb1).later bb2).later bb3)
 clear K1 K2 K3 bb1 bb2 bb3 hl1 hl2 hl3 ht H2 hz7
 go_wp2_with fail
 refine HSM.out.mono ?_
 rintro e' v8 ⟨rfl,hb⟩
 have BB:=Lib.hid (HB0.out.trans ((H3.out.later hb).below.mono HB0.out.size))
 clear hb HSM H3
 go_wp2_with fail
 go_ret
 exact ⟨rfl,BB.out⟩
end Go.Proofs.YtdpmjlbkojhooaaGreat.Lg
