/- A part. -/
import Derived.Test.YtcnohlgigmmefaaGreatPRpF
import Derived.Test.YtcnohlgigmmefaaGreatPLwE
namespace Go.Proofs.YtcnohlgigmmefaaGreat.Ro
open Go.RowKit Go.Lib
open Tb (Tab TIn Sl okP csT lastN nth Fresh)
open Dk (St Only Grew clampN)
open Lg (store_recp)
open Lg.Lg (bC bE res_recp1)
set_option linter.unusedVariables false
set_option maxRecDepth 100000
theorem live_is (I:ByteArray) (v:Int) (w:World):Calls Tryz.prog 38 #[.string I,.int .u64 v] w fun e w'=>e=.returned (.agg #[.int .u64 0,.int .u32 0,.int .i64 1,.int .u64 v,.int .u64 9,.string I,.string (bC 118)])∧Below w.heap.size w w':=by
 have hvR:=Tryz.zeroValue97
 have N:Tb.Blk (w.alloc (.cells #[.int .u64 0,.int .u32 0,.int .i64 0,.int .u64 0,.int .u64 0,.string ⟨#[]⟩,.string ⟨#[]⟩] 97)) w.heap.size 97 #[.int .u64 0,.int .u32 0,.int .i64 0,.int .u64 0,.int .u64 0,.string ⟨#[]⟩,.string ⟨#[]⟩]:=Tb.Blk.new w _ _
 have B:=Tb.below1 w (.cells #[.int .u64 0,.int .u32 0,.int .i64 0,.int .u64 0,.int .u64 0,.string ⟨#[]⟩,.string ⟨#[]⟩] 97)
 go_enter Tryz.func38,Tryz.ntmps38
 go_upto_region 1 with fail
 generalize w.alloc (.cells #[.int .u64 0,.int .u32 0,.int .i64 0,.int .u64 0,.int .u64 0,.string ⟨#[]⟩,.string ⟨#[]⟩] 97)=w1 at *
 go_wp2_with (with_reducible refine store_recp rfl (.tmp 4) (.tmp 7) rfl w.heap.size rfl rfl N rfl rfl ?_ ?_)
 ·simp [Value.oneCell']
 exact bodyPost_ret (res_recp1 rfl _ _ w.heap.size rfl (N.row _) rfl) rfl ⟨rfl,Tb.below_row B (Nat.le_refl _) _⟩
theorem two_is (w:World):Calls Tryz.prog 50 #[] w fun e w'=>e=.returned (.agg #[.int .i64 4,.int .i64 2,.float .f64 4607182418800017408,.int .i64 0])∧Below w.heap.size w w':=by
 have hvC:=Tryz.zeroValue24
 go_enter Tryz.func50,Tryz.ntmps50
 have NC:Tb.Blk (w.alloc (.cells #[.int .i64 0,.int .i64 0,.float .f64 0,.int .i64 0] 24)) w.heap.size 24 (Lg.csF 0 0 0 0):=Tb.Blk.new w _ _
 have B:=Tb.below1 w (.cells #[.int .i64 0,.int .i64 0,.float .f64 0,.int .i64 0] 24)
 go_upto_region 1 with fail
 generalize w.alloc (.cells #[.int .i64 0,.int .i64 0,.float .f64 0,.int .i64 0] 24)=w1 at *
 go_wp2_with (with_reducible refine Lg.store_cf rfl (.tmp 0) (.tmp 1) rfl w.heap.size rfl rfl NC ?_)
 exact bodyPost_ret (Lg.res_cf rfl _ _ w.heap.size rfl (NC.row (Lg.csF 4 2 4607182418800017408 0))) rfl ⟨rfl,Tb.below_row B (Nat.le_refl _) _⟩
theorem crash_lit_s {W w:World} {items:List Dk.Item} {k d:Nat} {s:St} (h:Dk.Sep W w items) (hk:items[k]? = some (Dk.diskI d s)) (ks:List Bool) (n:Nat) (hn:ks.length=n) (hn2:n≤1048576) (t:TypeId) (cs:Array Value) (hcs:cs=(ks.map Value.bool).toArray) (torn pos:Int) (hpl:s.pend.length<1048576) :
 Calls Tryz.prog 39 #[.pointer (some ⟨d,0,none⟩),.slice (some ⟨w.heap.size,0,none⟩) n n,.int .i64 torn,.int .i64 pos] (w.alloc (.cells cs t)) fun e w'=>e=.returned (.tuple #[])∧Dk.Sep W w' (items.set k (Dk.diskI d (s.crash (fun j=>ks.getD j false) torn (clampN pos)))):=by
 have hlt:=(List.getElem?_eq_some_iff.1 hk).1
 have h1:=Dk.Sep.lit h t cs n (by rw [hcs]; simp [hn]) (by unfold maxLen; omega)
 have h2:=Dk.crash_s h1 k (Lg.app_at hk) items.length (by omega) ks (by rw [Lg.app_last,hcs]) (by unfold maxLen; omega) torn pos hpl
 refine h2.mono fun e w' ⟨he,h3⟩=>⟨he,?_⟩
 rw [Lg.app_set hk] at h3
 exact Lg.loc_drop h3
end Go.Proofs.YtcnohlgigmmefaaGreat.Ro
namespace Go.Proofs.YtcnohlgigmmefaaGreat.Dk
open Go.RowKit Go.Lib
set_option linter.unusedVariables false
set_option maxRecDepth 100000
open Go.RowKit Go.MapKept Go.Lib
set_option linter.unusedVariables false
theorem run_eqlIn_map {P:Program} (w:World) (d:Nat) (t k e:TypeId) (b:Nat) (h:P.underlying t=some (.map k e)):(Op.equalIn (d+1) t (.map (some b)) (.map none)).run P w=.ok false w:=by
 simp [Op.equalIn,run_underlying h]
theorem run_eql_map {P:Program} (w:World) (t k e:TypeId) (b:Nat) (h:P.underlying t=some (.map k e)):(binOp .eql t (.map (some b)) (.map none)).run P w=.ok (.bool false) w:=by
 simp only [binOp]
 simp [show Op.equal t (.map (some b)) (.map none)=Op.equalIn (9999+1) t (.map (some b)) (.map none) from rfl,run_eqlIn_map w 9999 t k e b h]
theorem run_eqlIn_slice {P:Program} (w:World) (d:Nat) (t e:TypeId) (A:Option Addr) (n c:Nat) (h:P.underlying t=some (.slice e)):(Op.equalIn (d+1) t (.slice A n c) (.slice none 0 0)).run P w=.ok A.isNone w:=by
 cases A <;> simp [Op.equalIn,run_underlying h]
theorem run_eql_slice {P:Program} (w:World) (t e:TypeId) (A:Option Addr) (n c:Nat) (h:P.underlying t=some (.slice e)):(binOp .eql t (.slice A n c) (.slice none 0 0)).run P w=.ok (.bool A.isNone) w:=by
 simp only [binOp]
 simp [show Op.equal t (.slice A n c) (.slice none 0 0)=Op.equalIn (9999+1) t (.slice A n c) (.slice none 0 0) from rfl,run_eqlIn_slice w 9999 t e A n c h]
theorem run_assert_map {P:Program} (w:World) (t xT k e:TypeId) (v:Value) (h:P.underlying t=some (.map k e)):(Instr.typeAssert (.iface t v) xT t false).run P w=.ok v w:=by
 simp [Instr.typeAssert,run_underlying h,go_sem,Result.andThen]
theorem run_clone (w:World) (t:TypeId) (h:Nat) (es:Array MapEntry) (c:Nat) (hb:w.heap[h]? = some (.map es c)) :
 (callFunc 137 #[.iface t (.map (some h))]).run Tryz.prog w=.ok (.value (.iface t (.map (some w.heap.size)))) (w.alloc (.map es c)):=by
 have e:Extern.MapsClone.clone #[.iface t (.map (some h))]=(getObj h >>= fun o=>match o with
  | .map entries clock=>(newObj (.map entries clock) >>= fun n=>pure (.iface t (.map (some n))))
  | _ => stuck "maps.clone: a map expected") := rfl
 have hr:(Extern.MapsClone.clone #[.iface t (.map (some h))]).run Tryz.prog w=.ok (.iface t (.map (some w.heap.size))) (w.alloc (.map es c)):=by
  rw [e]
  simp [MapKept.run_getObj_map hb,Result.andThen,go_sem]
 rw [run_callFunc_extern Tryz.func137 (by kernel_rfl) (by kernel_rfl) (by kernel_rfl) (e:=Extern.MapsClone.clone) (by kernel_rfl),hr]
 rfl
theorem clone_held {w:World} {h:Nat} {f:Int→Option Value} (hm:MapIs w h f) :
 Calls Tryz.prog 94 #[.map (some h)] w fun e w'=>e=.returned (.map (some w.heap.size))∧MapIs w' w.heap.size f∧Below w.heap.size w w':=by
 obtain ⟨es,c,hb,hin⟩:=hm
 have hq:=fun w=>run_eql_map (P:=Tryz.prog) w 148 _ _ h Tryz.underlying148
 have hcl:=run_clone w 148 h es c hb
 have hta:=fun (w:World) (v:Value)=>run_assert_map (P:=Tryz.prog) w 148 20 _ _ v Tryz.underlying148
 have hfin:MapIs (w.alloc (.map es c)) w.heap.size f:=⟨es,c,heap_alloc_new w _,hin⟩
 go_enter Tryz.func94,Tryz.ntmps94
 go_wp2
 go_ret
 exact ⟨rfl,hfin,(Below.refl _ _).alloc (Nat.le_refl _) _⟩
theorem clone_last {w:World} {h:Nat} {f:Int→Option Value} (hm:MapIs w h f) :
 Calls Tryz.prog 96 #[.map (some h)] w fun e w'=>e=.returned (.map (some w.heap.size))∧MapIs w' w.heap.size f∧Below w.heap.size w w':=by
 obtain ⟨es,c,hb,hin⟩:=hm
 have hq:=fun w=>run_eql_map (P:=Tryz.prog) w 150 _ _ h Tryz.underlying150
 have hcl:=run_clone w 150 h es c hb
 have hta:=fun (w:World) (v:Value)=>run_assert_map (P:=Tryz.prog) w 150 20 _ _ v Tryz.underlying150
 have hfin:MapIs (w.alloc (.map es c)) w.heap.size f:=⟨es,c,heap_alloc_new w _,hin⟩
 go_enter Tryz.func96,Tryz.ntmps96
 go_wp2
 go_ret
 exact ⟨rfl,hfin,(Below.refl _ _).alloc (Nat.le_refl _) _⟩
theorem wr_info:(Tryz.prog.info? 163).map (fun i=>(i.zero,i.size,i.bytes))=some (some (.agg (wrA (0,zeroS))),129,136):=by kernel_rfl
set_option maxHeartbeats 1000000 in
theorem clone_pend {w:World} {v:Value} {l:List (Int × ByteArray)} (ho:w.ownsRow 0 163 129 v l.length (l.flatMap wrL)) (hl:l.length<1048576) :
 Calls Tryz.prog 95 #[v] w fun e w'=>∃ v',e=.returned v'∧w'.ownsRow 0 163 129 v' l.length (l.flatMap wrL)∧(∀ g,v'.ownBlock=some g→w.heap.size≤g)∧Below w.heap.size w w':=by
 have hcells:=fun g=>ho.cells (g:=g)
 rcases ho.2 with ⟨rfl,h0⟩ | ⟨g,cap,cur,rfl,_,hblk,hnc,_⟩
 ·have HO:=Lib.hid ho
  have hq:=fun w=>run_eql_slice (P:=Tryz.prog) w 149 _ none 0 0 Tryz.underlying149
  clear ho hcells
  go_enter Tryz.func95,Tryz.ntmps95
  go_wp2
  go_ret
  exact ⟨_,rfl,HO.out,by simp [Value.ownBlock],Below.refl _ _⟩
 ·obtain ⟨i0,hi0,hz0,hz1,hz2⟩:=info_parts wr_info
  have hlt:=lt_of_some hblk
  have h1:(w.alloc (.cells #[] 163)).ownsRow 0 163 129 (.slice (some ⟨w.heap.size,0,none⟩) 0 0) 0 []:=World.ownsRow_lit w #[] 0 (Nat.zero_le _) (Nat.zero_le _) rfl
  have hc2:∀ j u,(l.flatMap wrL)[j]? = some u→(w.alloc (.cells #[] 163)).cell? ((⟨g,0,none⟩:Addr).add j)=some u:=fun j u hu=>by
   have:=hcells g rfl j u hu
   rw [Addr.add_mid] at this ⊢
   exact (Below.cell (p:=⟨g,0+j,none⟩) ((Below.refl _ w).alloc (Nat.le_refl _) (.cells #[] 163)) hlt).trans this
  have hlen:(l.flatMap wrL).length=l.length*129:=ho.1
  have hone:∀ u∈l.flatMap wrL,u.oneCell' = true:=fun u hu=>by
   obtain ⟨p,_,hp⟩:=List.mem_flatMap.1 hu
   exact wrL_one p u hp
  have H1:=Lib.hid h1
  have H2:=Lib.hid hc2
  have H3:=Lib.hid hlen
  have H4:=Lib.hid hone
  have hb0:Below w.heap.size w (w.alloc (.cells #[] 163)):=(Below.refl _ _).alloc (Nat.le_refl _) _
  have hq:=fun w=>run_eql_slice (P:=Tryz.prog) w 149 _ (some ⟨g,0,none⟩) l.length cap Tryz.underlying149
  clear ho hcells h1 hc2 hlen hone hblk
  go_enter Tryz.func95,Tryz.ntmps95
  go_wp2_with (at_builtin; refine wpList_append_own_at _ rfl (.tmp 5) (.tmp 6) _ rfl 0 163 i0 _ 129 136 Tryz.underlying149 hi0 hz0 hz1 hz2 (by show (wrA (0,zeroS)).size=129; rw [wrA_size]; rfl) (by omega) (.slice (some ⟨w.heap.size,0,none⟩) 0 0) 0 [] rfl H1.out ⟨g,0,none⟩ l.length cap (l.flatMap wrL) rfl H3.out H2.out H4.out (by unfold maxLen; omega) (by omega) (Nat.zero_le _) ?_; intro v5 w5 h5 g5 _ hat5)
  go_ret
  refine ⟨v5,rfl,by simpa using h5,fun q hq=>?_,hb0.grown g5 hb0.size (fun q hq=>by simp [Value.ownBlock] at hq; omega)⟩
  rcases hat5 with e|e <;> rw [e] at hq <;> simp [Value.ownBlock] at hq <;> omega
set_option maxHeartbeats 2000000 in
theorem copy_any {w:World} {d:Nat} {F:Nat→Prop} {s:St} (D:DiskAt w d F s) (hpl:s.pend.length<1048576) :
 Calls Tryz.prog 51 #[.pointer (some ⟨d,0,none⟩)] w fun e w'=>∃ c F',e=.returned (.pointer (some ⟨c,0,none⟩))∧DiskAt w' c F' s∧(∀ b,F' b→w.heap.size≤b)∧Below w.heap.size w w':=by
 obtain ⟨h,l,v,D⟩:=D
 have c0:=D.c0
 have c1:=D.c1
 have c2:=D.c2
 have c3:=D.c3
 have c4:=D.c4
 have c5:=D.c5
 obtain ⟨A,c,rfl⟩:=own_slice D.own
 have hdl:=D.blk.lt
 go_enter Tryz.func51,Tryz.ntmps51
 go_wp2_with fail
 have hb0:Below w.heap.size w (w.alloc (.cells #[.bool s.set,.int .i64 s.left,.int .i64 s.size,.map (some h),.slice A s.pend.length c,.map (some l)] 152)):=(Below.refl _ _).alloc (Nat.le_refl _) _
 have B1:=Blk.new w 152 #[.bool s.set,.int .i64 s.left,.int .i64 s.size,.map (some h),.slice A s.pend.length c,.map (some l)]
 have D1:=D.later hb0
 have hFB:=D.lt
 generalize w.alloc (.cells #[.bool s.set,.int .i64 s.left,.int .i64 s.size,.map (some h),.slice A s.pend.length c,.map (some l)] 152)=W1 at *
 generalize hBw:w.heap.size=B at *
 have HBW:=Lib.hid hBw
 have hgood:=D.good
 clear hBw c0 c1 c2 c3 c4 c5 D
 obtain ⟨fh,mh,okh⟩:=D1.held
 refine (clone_held mh).mono ?_
 rintro e w2 ⟨rfl,mh2,b2⟩
 have hBl:=B1.lt
 have B2:Blk w2 B 152 #[.bool s.set,.int .i64 s.left,.int .i64 s.size,.map (some h),.slice A s.pend.length c,.map (some l)]:=(b2.block B hBl).trans B1
 have D2:=D1.later b2
 have x3:=B2.cell 3
 have y3:=B2.frozen 3
 simp only [List.getElem?_toArray,List.getElem?_cons_succ,List.getElem?_cons_zero] at x3
 have hHB:W1.heap.size≠B:=by omega
 have b02:=hb0.trans (b2.mono (Nat.le_of_lt hBl))
 have hs2:W1.heap.size<w2.heap.size:=mh2.lt
 generalize W1.heap.size=H at *
 clear D1 B1 mh b2
 have o3:Only (fun i=>i=B) w2 (w2.setCell ⟨B,3,none⟩ (.map (some H))):=(Only.refl (fun i=>i=B) w2).setCell (p:=⟨B,3,none⟩) (.inl rfl) _
 have B3:=B2.set_ 3 (.map (some H))
 have hF3:∀ i,F i→¬ i=B:=fun i hi=>by have:=hFB i hi; omega
 have D3:=D2.far o3 hF3
 have mh3:MapIs (w2.setCell ⟨B,3,none⟩ (.map (some H))) H fh:=mh2.setCell (p:=⟨B,3,none⟩) hHB _
 have b03:Below B w (w2.setCell ⟨B,3,none⟩ (.map (some H))):=b02.setCell (Nat.le_refl _) _
 have hs3:H<(w2.setCell ⟨B,3,none⟩ (.map (some H))).heap.size:=mh3.lt
 have c4:=D3.c4
 clear D2 B2 mh2 b02 hs2 o3
 go_wp2_with fail
 generalize w2.setCell ⟨B,3,none⟩ (.map (some H))=w3 at *
 refine (clone_pend D3.own hpl).mono ?_
 rintro e w4 ⟨v',rfl,ho4,hv4,b4⟩
 obtain ⟨A',p',rfl⟩:=own_slice ho4
 have hBl3:=B3.lt
 have B4:Blk w4 B 152 _:=(b4.block B hBl3).trans B3
 have D4:=D3.later b4
 have mh4:MapIs w4 H fh:=mh3.same (b4.block H hs3)
 have x4:=B4.cell 4
 have y4:=B4.frozen 4
 simp only [List.setIfInBounds_toArray,List.set_cons_succ,List.set_cons_zero,List.getElem?_toArray,List.getElem?_cons_succ,List.getElem?_cons_zero] at x4
 have b04:=b03.trans (b4.mono (Nat.le_of_lt hBl3))
 have hvB:(Value.slice A' s.pend.length p').ownBlock≠some B:=own_ne ho4 B4 (by decide)
 have hvH:(Value.slice A' s.pend.length p').ownBlock≠some H:=own_ne_map ho4 mh4
 have hv4' : ∀ g,(Value.slice A' s.pend.length p').ownBlock=some g→B≤g:=fun g hg=>Nat.le_trans (Nat.le_of_lt hBl3) (hv4 g hg)
 clear D3 B3 mh3 b03 hs3 b4 hv4 c4 x3 y3
 have o5:Only (fun i=>i=B) w4 (w4.setCell ⟨B,4,none⟩ (.slice A' s.pend.length p')):=(Only.refl (fun i=>i=B) w4).setCell (p:=⟨B,4,none⟩) (.inl rfl) _
 have B5:=B4.set_ 4 (.slice A' s.pend.length p')
 have D5:=D4.far o5 hF3
 have mh5:MapIs (w4.setCell ⟨B,4,none⟩ (.slice A' s.pend.length p')) H fh:=mh4.setCell (p:=⟨B,4,none⟩) hHB _
 have ho5:=own_same (w':=w4.setCell ⟨B,4,none⟩ (.slice A' s.pend.length p')) ho4 (fun g hg=>o5.block g (ho4.lt g hg).2 (fun e=>hvB (by rw [hg,e])))
 have b05:Below B w (w4.setCell ⟨B,4,none⟩ (.slice A' s.pend.length p')):=b04.setCell (Nat.le_refl _) _
 have c5:=D5.c5
 clear D4 B4 mh4 ho4 b04 o5
 go_wp2_with fail
 generalize w4.setCell ⟨B,4,none⟩ (.slice A' s.pend.length p')=w5 at *
 obtain ⟨fl,ml,okl⟩:=D5.last
 refine (clone_last ml).mono ?_
 rintro e w6 ⟨rfl,ml6,b6⟩
 have hBl5:=B5.lt
 have B6:Blk w6 B 152 _:=(b6.block B hBl5).trans B5
 have mh6:MapIs w6 H fh:=mh5.same (b6.block H mh5.lt)
 have ho6:=own_same (w':=w6) ho5 (fun g hg=>b6.block g (ho5.lt g hg).2)
 have x5:=B6.cell 5
 have y5:=B6.frozen 5
 simp only [List.setIfInBounds_toArray,List.set_cons_succ,List.set_cons_zero,List.getElem?_toArray,List.getElem?_cons_succ,List.getElem?_cons_zero] at x5
 have b06:=b05.trans (b6.mono (Nat.le_of_lt hBl5))
 have hLB:w5.heap.size≠B:=by omega
 have hLH:H≠w5.heap.size:=by have:=mh5.lt; omega
 have hBL:B≤w5.heap.size:=Nat.le_of_lt hBl5
 have hvL:(Value.slice A' s.pend.length p').ownBlock≠some w5.heap.size:=own_ne_map ho6 ml6
 generalize w5.heap.size=L at *
 have FIN:∃ cc F',Ending.returned (Value.pointer (some ⟨B,0,none⟩))=.returned (.pointer (some ⟨cc,0,none⟩))∧DiskAt (w6.setCell ⟨B,5,none⟩ (.map (some L))) cc F' s∧(∀ b,F' b→B≤b)∧Below B w (w6.setCell ⟨B,5,none⟩ (.map (some L))):=by
  have o7:Only (fun i=>i=B) w6 (w6.setCell ⟨B,5,none⟩ (.map (some L))):=(Only.refl (fun i=>i=B) w6).setCell (p:=⟨B,5,none⟩) (.inl rfl) _
  have hz:(w6.setCell ⟨B,5,none⟩ (.map (some L))).heap.size=w6.heap.size:=by simp [World.setCell]
  refine ⟨B,fun b=>B≤b∧b<w6.heap.size,rfl,⟨H,L,.slice A' s.pend.length p',?_⟩,fun b hb=>hb.1,b06.setCell (Nat.le_refl _) _⟩
  refine ⟨⟨Nat.le_refl _,B6.lt⟩,⟨?_,mh6.lt⟩,⟨hBL,ml6.lt⟩,fun g hg=>⟨hv4' g hg,(ho6.lt g hg).2⟩,hLH,B6.set_ 5 _,⟨fh,mh6.setCell (p:=⟨B,5,none⟩) hHB _,?_⟩,⟨fl,ml6.setCell (p:=⟨B,5,none⟩) hLB _,okl⟩,own_same ho6 (fun g hg=>o7.block g (ho6.lt g hg).2 (fun e=>hvB (by rw [hg,e]))),fun b hb=>by rw [hz]; exact hb.2,hgood⟩
  ·omega
  ·exact okh
 have HF:=Lib.hid FIN
 clear FIN B6 ml6 mh6 ho6 b06 B5 D5 mh5 ho5 b05 ml okl
 go_wp2_with fail
 go_ret
 have:=HF.out
 rw [HBW.out]
 exact this
end Go.Proofs.YtcnohlgigmmefaaGreat.Dk
