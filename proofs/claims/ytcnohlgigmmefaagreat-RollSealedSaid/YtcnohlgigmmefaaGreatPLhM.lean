/- A part. -/
import Derived.Test.YtcnohlgigmmefaaGreatPLhL
namespace Go.Proofs.YtcnohlgigmmefaaGreat.Lg
open Go.RowKit Go.Lib
open Tb (Tab TIn Sl okP csT lastN nth Fresh)
open Dk (St Only Grew)
set_option linter.unusedVariables false
set_option maxRecDepth 100000
theorem info_recp:(Tryz.prog.info? 97).map (·.size)=some 7:=by kernel_rfl
theorem pdecode_any (s:ByteArray) (w:World) (hs:s.size≤1000):Calls Tryz.prog 113 #[.string s] w fun e w'=>e=.returned (.tuple #[.agg (cutC s),.int .i64 (decE s)])∧Below w.heap.size w w':=by
 unfold cutC decE
 cases h:Rc.isSec s.data.toList with
 | true =>
   rw [if_pos rfl,if_pos rfl]
   exact Rc.decode_yes s _ _ _ _ _ ⟨(Rc.cutR s.data.toList).i.toArray⟩ ⟨(Rc.cutR s.data.toList).a.toArray⟩ w (by omega) rfl h
 | false =>
   rw [if_neg (by decide),if_neg (by decide)]
   exact Rc.decode_no s w (by omega) h
section
variable {ops:Array Oper} {rest:List Oper} {o:Oper} {a:Act} {w:World} {Q:Exit→Act→World→Prop}
theorem store_recp (hgd:o.guard=none) (x y:Operand) (ho:o.op=.store 97 x y) (b:Nat) (hx:a.eval x=.pointer (some ⟨b,0,none⟩)) {cs old:Array Value} (hy:a.eval y=.agg cs) {t:TypeId} (hg:Tb.Blk w b t old) (hs:cs.size=7) (hz:old.size=7) (h1:cs.all (·.oneCell')=true)
 (h:wpList Tryz.prog ops Q rest (a.put o.dst undef) (w.setRow b cs)):wpList Tryz.prog ops Q (o :: rest) a w :=
 wpList_store_row hgd _ x y ho b cs hx hy _ _ hg (by rw [hs]; exact info_recp) (by rw [hs,hz]) h1 h
end
theorem res_recp {fn:Func} {p' q' : Tmp} (h:fn.results=#[.cell p' 97,.tmp q']) (tmps:Array Value) (W:World) (b:Nat) {cs:Array Value} {t:TypeId} {y:Value} (hp:tmps.getD p' undef=.pointer (some ⟨b,0,none⟩)) (hq:tmps.getD q' undef=y) (L:Tb.Blk W b t cs) (hs:cs.size=7) :
 (results fn tmps).run Tryz.prog W=.ok (.tuple #[.agg cs,y]) W:=by
 have hp' : tmps[p']?.getD undef=.pointer (some ⟨b,0,none⟩):=by simpa using hp
 have hq' : tmps[q']?.getD undef=y:=by simpa using hq
 have h1:(loadVar 97 ⟨b,0,none⟩).run Tryz.prog W=.ok (.agg cs) W:=run_loadVar_row W b t 97 cs (0,0) _ L Tryz.underlying97 rfl (by rw [hs]; exact info_recp)
 simp [results,h,hp',hq',asAddr,h1]
set_option maxHeartbeats 16000000 in
theorem pread_any {W0 w:World} {items:List Dk.Item} {k j g d:Nat} {s:St} {t:Tab} {ls ep gn:Int} (h:Dk.Sep W0 w items) (hk:items[k]? = some (Dk.diskI d s)) (hj:items[j]? = some (logI 156 g d t ls ep gn)) (seg slot:Int) (hgood:s.Good) (hf:FitS t s) (hpl:s.pend.length<1048576) :
 Calls Tryz.prog 103 #[.pointer (some ⟨g,0,none⟩),.agg #[.int .i64 seg,.int .i64 slot]] w fun e w'=>e=.returned (.tuple #[.agg (readS t s seg slot).1,.int .i64 (readS t s seg slot).2])∧Below w.heap.size w w':=by
 have hvR:=Tryz.zeroValue97
 have HH:=Lib.hid h
 have HOK:=log_ok h hj
 obtain ⟨RR,HRR⟩:∃ z,Hid (readS t s seg slot=z):=⟨_,Lib.hid rfl⟩
 rw [HRR.out]
 have B0:Below w.heap.size w ((w.alloc (.cells #[.int .i64 seg,.int .i64 slot] 93)).alloc (.cells #[.int .u64 0,.int .u32 0,.int .i64 0,.int .u64 0,.int .u64 0,.string ⟨#[]⟩,.string ⟨#[]⟩] 97)):=NewC.geTrans (NewC.below1 _ _) (NewC.below1 _ _)
 have K3:Tb.Blk ((w.alloc (.cells #[.int .i64 seg,.int .i64 slot] 93)).alloc (.cells #[.int .u64 0,.int .u32 0,.int .i64 0,.int .u64 0,.int .u64 0,.string ⟨#[]⟩,.string ⟨#[]⟩] 97)) w.heap.size 93 #[.int .i64 seg,.int .i64 slot]:=(Tb.Blk.new w _ _).later (NewC.below1 _ _)
 have K4:Tb.Blk ((w.alloc (.cells #[.int .i64 seg,.int .i64 slot] 93)).alloc (.cells #[.int .u64 0,.int .u32 0,.int .i64 0,.int .u64 0,.int .u64 0,.string ⟨#[]⟩,.string ⟨#[]⟩] 97)) (w.heap.size+1) 97 #[.int .u64 0,.int .u32 0,.int .i64 0,.int .u64 0,.int .u64 0,.string ⟨#[]⟩,.string ⟨#[]⟩]:=Tb.Blk.at_ _ _ _ (by simp)
 clear h
 go_enter Tryz.func103,Tryz.ntmps103
 go_upto_region 1 with fail
 generalize ((w.alloc (.cells #[.int .i64 seg,.int .i64 slot] 93)).alloc (.cells #[.int .u64 0,.int .u32 0,.int .i64 0,.int .u64 0,.int .u64 0,.string ⟨#[]⟩,.string ⟨#[]⟩] 97))=W1 at *
 obtain ⟨A,m,p,B,k1,q,C,n,r1,hB,ht,_,hok⟩:=log_at (HH.out.later B0) hj
 have hm:=(Tb.ok_full hok ht).2.2.2.2.1
 have hlo:t.l.length=t.o.length:=hok.2.2.2.2.2.2.1
 obtain ⟨L,HL⟩:∃ z,Hid (Tb.lenT t seg=z):=⟨_,Lib.hid rfl⟩
 have Q1:Hid (∀ W,Below W1.heap.size W1 W→Calls Tryz.prog 145 #[.agg #[.int .i64 t.sg,.int .i64 t.st,.slice A m p,.slice B k1 q,.slice C n r1],.int .i64 seg] W fun e w'=>e=.returned (.int .i64 L)∧Below W.heap.size W w'):=Lib.hid (fun W hb=>Tb.len_is t.sg t.st A m p B k1 q C n r1 t.o t.l t.f seg L W (ht.later hb) hm hlo HL.out)
 have I:Below W1.heap.size W1 { W1 with drawn:=W1.drawn+1 }:=(Below.refl _ _).drew
 have hne:Nonempty (In (fun W=>Below W1.heap.size W1 W)):=⟨⟨_,I⟩⟩
 have f0:∀ jj:In (fun W=>Below W1.heap.size W1 W),jj.W.cell? ⟨g,0,none⟩=some (.pointer (some ⟨d,0,none⟩)):=fun jj=>(hB.later jj.h).cell 0
 have f1:∀ jj:In (fun W=>Below W1.heap.size W1 W),jj.W.cell? ⟨g,1,none⟩=some (.int .i64 t.sg):=fun jj=>(hB.later jj.h).cell 1
 have f2:∀ jj:In (fun W=>Below W1.heap.size W1 W),jj.W.cell? ⟨g,2,none⟩=some (.int .i64 t.st):=fun jj=>(hB.later jj.h).cell 2
 have f3:∀ jj:In (fun W=>Below W1.heap.size W1 W),jj.W.cell? ⟨g,3,none⟩=some (.slice A m p):=fun jj=>(hB.later jj.h).cell 3
 have f4:∀ jj:In (fun W=>Below W1.heap.size W1 W),jj.W.cell? ⟨g,4,none⟩=some (.slice B k1 q):=fun jj=>(hB.later jj.h).cell 4
 have f5:∀ jj:In (fun W=>Below W1.heap.size W1 W),jj.W.cell? ⟨g,5,none⟩=some (.slice C n r1):=fun jj=>(hB.later jj.h).cell 5
 have fl0:∀ jj:In (fun W=>Below W1.heap.size W1 W),jj.W.cell? ⟨w.heap.size,0,none⟩=some (.int .i64 seg):=fun jj=>(K3.later jj.h).cell 0
 have fl1:∀ jj:In (fun W=>Below W1.heap.size W1 W),jj.W.cell? ⟨w.heap.size,1,none⟩=some (.int .i64 slot):=fun jj=>(K3.later jj.h).cell 1
 by_cases h0:slot<0
 ·have EE:=Lib.hid (show RR=(zero7,3) by rw [← HRR.out]; exact if_pos (.inl h0))
  refine region_class (fun W=>Below W1.heap.size W1 W) (by kernel_rfl) (by kernel_rfl) I ?_
  repeat (go_big_quiet_step (first
   | (go_at_call 145; with_reducible exact class_call _ (fun hi=>(Q1.out _ hi).mono fun e w' ⟨he,hb⟩=>⟨he,hi.trans (hb.mono hi.size)⟩))))
  refine wpQuiet_nil ?_
  rintro _ ⟨jj,rfl⟩
  have BB:=Lib.hid (Tb.below_row (NewC.geTrans B0 jj.h) (show w.heap.size≤w.heap.size+1 by omega) #[.int .u64 0,.int .u32 0,.int .i64 0,.int .u64 0,.int .u64 0,.string ⟨#[]⟩,.string ⟨#[]⟩])
  replace K4:=K4.later jj.h
  clear Q1 I hne f0 f1 f2 f3 f4 f5 fl0 fl1
  generalize jj.W=W2 at *
  go_wp2_with (with_reducible refine store_recp rfl (.tmp 4) (.tmp 23) rfl (w.heap.size+1) rfl rfl K4 rfl rfl ?_ ?_)
  ·simp [Value.oneCell']
  exact bodyPost_ret (res_recp rfl _ _ (w.heap.size+1) rfl rfl (K4.row _) rfl) rfl ⟨by rw [EE.out]; rfl,BB.out⟩
 by_cases h1:L≤slot
 ·have EE:=Lib.hid (show RR=(zero7,3) by rw [← HRR.out]; exact if_pos (.inr (by rw [HL.out]; exact h1)))
  refine region_class (fun W=>Below W1.heap.size W1 W) (by kernel_rfl) (by kernel_rfl) I ?_
  repeat (go_big_quiet_step (first
   | (go_at_call 145; with_reducible exact class_call _ (fun hi=>(Q1.out _ hi).mono fun e w' ⟨he,hb⟩=>⟨he,hi.trans (hb.mono hi.size)⟩))))
  refine wpQuiet_nil ?_
  rintro _ ⟨jj,rfl⟩
  have BB:=Lib.hid (Tb.below_row (NewC.geTrans B0 jj.h) (show w.heap.size≤w.heap.size+1 by omega) #[.int .u64 0,.int .u32 0,.int .i64 0,.int .u64 0,.int .u64 0,.string ⟨#[]⟩,.string ⟨#[]⟩])
  replace K4:=K4.later jj.h
  clear Q1 I hne f0 f1 f2 f3 f4 f5 fl0 fl1
  generalize jj.W=W2 at *
  go_wp2_with (with_reducible refine store_recp rfl (.tmp 4) (.tmp 23) rfl (w.heap.size+1) rfl rfl K4 rfl rfl ?_ ?_)
  ·simp [Value.oneCell']
  exact bodyPost_ret (res_recp rfl _ _ (w.heap.size+1) rfl rfl (K4.row _) rfl) rfl ⟨by rw [EE.out]; rfl,BB.out⟩
 ·obtain ⟨i0,Hi⟩:∃ z,Hid (Tb.sectorT t.st seg slot=z):=⟨_,Lib.hid rfl⟩
  obtain ⟨S,HS⟩:∃ z,Hid (s.cur i0=z):=⟨_,Lib.hid rfl⟩
  have EE:=Lib.hid (show RR=(cutC S,decE S) by rw [← HRR.out,← HS.out,← Hi.out]; exact if_neg (by rw [HL.out]; omega))
  have hseg:=len_in (t:=t) (seg:=seg) (slot:=slot) (by omega) (by rw [HL.out]; omega)
  have hhas:s.has i0:=by
   rw [← Hi.out]
   have:=len_le (seg:=seg) hok
   rw [HL.out] at this
   exact has_sector hok hf (hok.2.2.2.1 _ hseg) ⟨by omega,by omega⟩
  have hS:S.size≤1000:=by rw [← HS.out,Dk.cur_size hgood]; decide
  have Q2:Hid (∀ W,Below W1.heap.size W1 W→Calls Tryz.prog 146 #[.pointer (some ⟨g,0,none⟩),.agg #[.int .i64 seg,.int .i64 slot]] W fun e w'=>e=.returned (.int .i64 i0)∧Below W.heap.size W w'):=Lib.hid (fun W hb=>by rw [← Hi.out]; exact place_is (hB.later hb) seg slot)
  have Q3:Hid (∀ W,Below w.heap.size w W→Calls Tryz.prog 75 #[.pointer (some ⟨d,0,none⟩),.int .i64 i0] W fun e w'=>e=.returned (.tuple #[.string S,.int .i64 0])∧Below W.heap.size W w'):=Lib.hid (fun W hb=>by
   rw [← HS.out]
   obtain ⟨G,D,_⟩:=(HH.out.later hb).at_ k hk
   exact Dk.read_yes D i0 hhas)
  have HB1:=Lib.hid hB
  have HK3:=Lib.hid K3
  refine region_class (fun W=>Below W1.heap.size W1 W) (by kernel_rfl) (by kernel_rfl) I ?_
  repeat (go_big_quiet_step (first
   | (go_at_call 145; with_reducible exact class_call _ (fun hi=>(Q1.out _ hi).mono fun e w' ⟨he,hb⟩=>⟨he,hi.trans (hb.mono hi.size)⟩))))
  refine wpQuiet_nil ?_
  rintro _ ⟨jj,rfl⟩
  have hb2:=jj.h
  generalize jj.W=W2 at *
  clear jj
  have I2:Below W1.heap.size W1 { W2 with drawn:=W2.drawn+1 }:=hb2.drew
  go_wp2_with fail
  refine region_class (fun W=>Below W1.heap.size W1 W) (by kernel_rfl) (by kernel_rfl) I2 ?_
  repeat (go_big_quiet_step (first
   | (go_at_call 146; with_reducible exact class_call _ (fun hi=>(Q2.out _ hi).mono fun e w' ⟨he,hb⟩=>⟨he,hi.trans (hb.mono hi.size)⟩))
   | (go_at_call 75; with_reducible exact class_call _ (fun hi=>(Q3.out _ (NewC.geTrans B0 hi)).mono fun e w' ⟨he,hb⟩=>⟨he,hi.trans (hb.mono hi.size)⟩))))
  refine wpQuiet_nil ?_
  rintro _ ⟨jj,rfl⟩
  have hb3:=jj.h
  generalize jj.W=W3 at *
  clear jj Q1 Q2 Q3 I I2 hne f0 f1 f2 f3 f4 f5 fl0 fl1 hb2
  go_wp2_with fail
  refine (pdecode_any S _ hS).mono ?_
  rintro e' W4 ⟨rfl,hb⟩
  replace K4:=(K4.later hb3).later hb
  have BB:=Lib.hid (Tb.below_row (NewC.geTrans (NewC.geTrans B0 hb3) hb) (show w.heap.size≤w.heap.size+1 by omega) (cutC S))
  clear hb hb3
  obtain ⟨cc,Hcc⟩:∃ z,Hid (cutC S=z):=⟨_,Lib.hid rfl⟩
  have hc7:cc.size=7:=by rw [← Hcc.out]; exact cutC_size S
  have hc1:cc.all (·.oneCell')=true:=by rw [← Hcc.out]; exact cutC_one S
  rw [Hcc.out]
  go_wp2_with (with_reducible refine store_recp rfl (.tmp 4) (.tmp 37) rfl (w.heap.size+1) rfl rfl K4 hc7 rfl hc1 ?_)
  exact bodyPost_ret (res_recp rfl _ _ (w.heap.size+1) rfl rfl (K4.row _) hc7) rfl ⟨by rw [EE.out,← Hcc.out]; rfl,by rw [← Hcc.out]; exact BB.out⟩
theorem fresh_block {W W' : World} {b m:Nat} {A:Option Addr} (h:Fresh W b A m) (hs:∀ a,A=some a→a.block<W.heap.size→W'.heap[a.block]? = W.heap[a.block]?):Fresh W' b A m:=by
 intro hm
 obtain ⟨g,o,rfl,hb,hc⟩:=h hm
 have hlt:g<W.heap.size:=by
  obtain ⟨⟨v,hv⟩,_⟩:=hc 0 hm
  rcases Nat.lt_or_ge g W.heap.size with h1|h1
  ·exact h1
  ·have:W.heap[g]? = none:=Array.getElem?_eq_none h1
   simp [World.cell?,this] at hv
 have e:=hs _ rfl hlt
 simp only at e
 refine ⟨g,o,rfl,hb,fun j hj=>?_⟩
 obtain ⟨⟨v,hv⟩,hf⟩:=hc j hj
 refine ⟨⟨v,(World.cell?_of_block (w:=W) e).trans hv⟩,?_⟩
 simp only [World.frozen?,e] at hf ⊢
 exact hf
theorem fresh_later {W W' : World} {b m:Nat} {A:Option Addr} (h:Fresh W b A m) (hb:Below W.heap.size W W'):Fresh W' b A m:=fresh_block h fun a _ hlt=>hb.block _ hlt
theorem fresh_row {W:World} {b m g:Nat} {A:Option Addr} (h:Fresh W b A m) (hg:∀ a,A=some a→a.block≠g) (cs:Array Value):Fresh (W.setRow g cs) b A m:=fresh_block h fun a ha _=>setRow_other W g a.block cs (hg a ha)
def ApP (t:Tab) (w:World) (e:Ending) (w' : World):Prop:=∃ A m p B k q C n r W1,e=.returned (.agg #[.int .i64 t.sg,.int .i64 t.st,.slice A m p,.slice B k q,.slice C n r])∧TIn w' A m B k C n t.o t.l t.f∧(Fresh W1 w.heap.size A m∧Fresh W1 w.heap.size B k∧Fresh W1 w.heap.size C n)∧Below w.heap.size w w'
theorem apart_any {w:World} {t:Tab} {A:Option Addr} {m p:Nat} {B:Option Addr} {k q:Nat} {C:Option Addr} {n r:Nat} (ht:TIn w A m B k C n t.o t.l t.f) (hok:okP t):Calls Tryz.prog 76 #[.agg #[.int .i64 t.sg,.int .i64 t.st,.slice A m p,.slice B k q,.slice C n r]] w (ApP t w):=by
 have hvT:=Tryz.zeroValue45
 obtain ⟨⟨hfa,hfb,hfc⟩,hm,hk,hn,hml,hkl,hnl⟩:=Tb.ok_full hok ht
 have B0:Below w.heap.size w ((w.alloc (.cells #[.int .i64 t.sg,.int .i64 t.st,.slice A m p,.slice B k q,.slice C n r] 45)).alloc (.cells #[.int .i64 0,.int .i64 0,.slice none 0 0,.slice none 0 0,.slice none 0 0] 45)):=Tb.Ge.trans (Tb.below1 _ _) (Tb.below1 _ _)
 have N1:Tb.Blk ((w.alloc (.cells #[.int .i64 t.sg,.int .i64 t.st,.slice A m p,.slice B k q,.slice C n r] 45)).alloc (.cells #[.int .i64 0,.int .i64 0,.slice none 0 0,.slice none 0 0,.slice none 0 0] 45)) w.heap.size 45 (csT t.sg t.st A m p B k q C n r):=(Tb.Blk.new w _ _).later (Tb.below1 _ _)
 have N2:Tb.Blk ((w.alloc (.cells #[.int .i64 t.sg,.int .i64 t.st,.slice A m p,.slice B k q,.slice C n r] 45)).alloc (.cells #[.int .i64 0,.int .i64 0,.slice none 0 0,.slice none 0 0,.slice none 0 0] 45)) (w.heap.size+1) 45 (csT 0 0 none 0 0 none 0 0 none 0 0):=Tb.Blk.at_ _ _ _ (by simp)
 have hnb:=tin_nb hok ht (Nat.le_refl w.heap.size)
 have h1:=ht.later B0
 have hz0:w.heap.size+2≤((w.alloc (.cells #[.int .i64 t.sg,.int .i64 t.st,.slice A m p,.slice B k q,.slice C n r] 45)).alloc (.cells #[.int .i64 0,.int .i64 0,.slice none 0 0,.slice none 0 0,.slice none 0 0] 45)).heap.size:=by simp
 have hk1:1≤k∧k≤16:=by omega
 have hn1:1≤n∧n≤16:=by omega
 clear ht hk hn
 go_enter Tryz.func76,Tryz.ntmps76
 go_upto_region 1 with fail
 generalize ((w.alloc (.cells #[.int .i64 t.sg,.int .i64 t.st,.slice A m p,.slice B k q,.slice C n r] 45)).alloc (.cells #[.int .i64 0,.int .i64 0,.slice none 0 0,.slice none 0 0,.slice none 0 0] 45))=w1 at *
 have hz1:=N2.lt
 have c2:w1.cell? ⟨w.heap.size,2,none⟩=some (.slice A m p):=N1.cell 2
 have C1:=Lib.hid (Tb.clone_i A m p t.o w1 h1.a hfa (by omega))
 go_wp2_with fail
 refine C1.out.mono ?_
 rintro e' w2 ⟨A1,p1,rfl,own1,hb⟩
 clear c2 C1
 replace N1:=N1.later hb
 replace N2:=N2.later hb
 replace B0:=Tb.Ge.trans B0 hb
 replace h1:=h1.later hb
 have TA:Sl .i64 w2 A1 m t.o:=Tb.own_sl own1
 have FA:Fresh w2 w1.heap.size A1 m:=Tb.own_fresh own1
 have MA:=fresh_nb FA (by omega) (show w.heap.size<w1.heap.size by omega)
 have MA2:=fresh_nb FA (by omega) (show w.heap.size+1<w1.heap.size by omega)
 replace FA:=fresh_wide FA (show w.heap.size≤w1.heap.size by omega)
 have c2:w2.cell? ⟨w.heap.size,2,none⟩=some (.slice A m p):=N1.cell 2
 have y2:=N1.frozen 2
 have E2:w2.setCell ⟨w.heap.size,2,none⟩ (.slice A1 m p1)=w2.setRow w.heap.size (csT t.sg t.st A1 m p1 B k q C n r):=set_row N1 2 _
 replace TA:=sl_row TA MA (csT t.sg t.st A1 m p1 B k q C n r)
 replace FA:=fresh_row FA MA (csT t.sg t.st A1 m p1 B k q C n r)
 replace h1:=tin_row h1 hnb (csT t.sg t.st A1 m p1 B k q C n r)
 replace N1:=N1.row (csT t.sg t.st A1 m p1 B k q C n r)
 replace N2:=N2.far (show w.heap.size≠w.heap.size+1 by omega) (csT t.sg t.st A1 m p1 B k q C n r)
 replace B0:=Tb.below_row B0 (Nat.le_refl _) (csT t.sg t.st A1 m p1 B k q C n r)
 go_upto_region 2 with fail
 clear c2 y2 E2 own1 hb
 generalize w2.setRow w.heap.size (csT t.sg t.st A1 m p1 B k q C n r)=w3 at *
 have hz3:=N2.lt
 have c3:w3.cell? ⟨w.heap.size,3,none⟩=some (.slice B k q):=N1.cell 3
 have C1:=Lib.hid (Tb.clone_i B k q t.l w3 h1.b hfb (by omega))
 go_wp2_with fail
 refine C1.out.mono ?_
 rintro e' w4 ⟨B1,q1,rfl,own1,hb⟩
 clear c3 C1
 replace N1:=N1.later hb
 replace N2:=N2.later hb
 replace B0:=Tb.Ge.trans B0 hb
 replace h1:=h1.later hb
 replace TA:=TA.later hb
 have TB:Sl .i64 w4 B1 k t.l:=Tb.own_sl own1
 replace FA:=fresh_later FA hb
 have FB:Fresh w4 w3.heap.size B1 k:=Tb.own_fresh own1
 have MB:=fresh_nb FB (by omega) (show w.heap.size<w3.heap.size by omega)
 have MB2:=fresh_nb FB (by omega) (show w.heap.size+1<w3.heap.size by omega)
 replace FB:=fresh_wide FB (show w.heap.size≤w3.heap.size by omega)
 have c3:w4.cell? ⟨w.heap.size,3,none⟩=some (.slice B k q):=N1.cell 3
 have y3:=N1.frozen 3
 have E3:w4.setCell ⟨w.heap.size,3,none⟩ (.slice B1 k q1)=w4.setRow w.heap.size (csT t.sg t.st A1 m p1 B1 k q1 C n r):=set_row N1 3 _
 replace TA:=sl_row TA MA (csT t.sg t.st A1 m p1 B1 k q1 C n r)
 replace TB:=sl_row TB MB (csT t.sg t.st A1 m p1 B1 k q1 C n r)
 replace FA:=fresh_row FA MA (csT t.sg t.st A1 m p1 B1 k q1 C n r)
 replace FB:=fresh_row FB MB (csT t.sg t.st A1 m p1 B1 k q1 C n r)
 replace h1:=tin_row h1 hnb (csT t.sg t.st A1 m p1 B1 k q1 C n r)
 replace N1:=N1.row (csT t.sg t.st A1 m p1 B1 k q1 C n r)
 replace N2:=N2.far (show w.heap.size≠w.heap.size+1 by omega) (csT t.sg t.st A1 m p1 B1 k q1 C n r)
 replace B0:=Tb.below_row B0 (Nat.le_refl _) (csT t.sg t.st A1 m p1 B1 k q1 C n r)
 go_upto_region 3 with fail
 clear c3 y3 E3 own1 hb
 generalize w4.setRow w.heap.size (csT t.sg t.st A1 m p1 B1 k q1 C n r)=w5 at *
 have hz5:=N2.lt
 have c4:w5.cell? ⟨w.heap.size,4,none⟩=some (.slice C n r):=N1.cell 4
 have C1:=Lib.hid (Tb.clone_u C n r t.f w5 h1.c hfc (by omega))
 go_wp2_with fail
 refine C1.out.mono ?_
 rintro e' w6 ⟨C1',r1,rfl,own1,hb⟩
 clear c4 C1
 replace N1:=N1.later hb
 replace N2:=N2.later hb
 replace B0:=Tb.Ge.trans B0 hb
 replace TA:=TA.later hb
 replace TB:=TB.later hb
 have TC:Sl .u64 w6 C1' n t.f:=Tb.own_sl own1
 replace FA:=fresh_later FA hb
 replace FB:=fresh_later FB hb
 have FC:Fresh w6 w5.heap.size C1' n:=Tb.own_fresh own1
 have MC:=fresh_nb FC (by omega) (show w.heap.size<w5.heap.size by omega)
 have MC2:=fresh_nb FC (by omega) (show w.heap.size+1<w5.heap.size by omega)
 replace FC:=fresh_wide FC (show w.heap.size≤w5.heap.size by omega)
 have c4:w6.cell? ⟨w.heap.size,4,none⟩=some (.slice C n r):=N1.cell 4
 have y4:=N1.frozen 4
 have E4:w6.setCell ⟨w.heap.size,4,none⟩ (.slice C1' n r1)=w6.setRow w.heap.size (csT t.sg t.st A1 m p1 B1 k q1 C1' n r1):=set_row N1 4 _
 have T3:TIn (w6.setRow w.heap.size (csT t.sg t.st A1 m p1 B1 k q1 C1' n r1)) A1 m B1 k C1' n t.o t.l t.f:=⟨sl_row TA MA _,sl_row TB MB _,sl_row TC MC _⟩
 replace N1:=N1.row (csT t.sg t.st A1 m p1 B1 k q1 C1' n r1)
 replace N2:=N2.far (show w.heap.size≠w.heap.size+1 by omega) (csT t.sg t.st A1 m p1 B1 k q1 C1' n r1)
 replace B0:=Tb.below_row B0 (Nat.le_refl _) (csT t.sg t.st A1 m p1 B1 k q1 C1' n r1)
 go_upto_region 4 with fail
 clear c4 y4 E4 own1 hb h1 TA TB TC hfa hfb hfc
 generalize w6.setRow w.heap.size (csT t.sg t.st A1 m p1 B1 k q1 C1' n r1)=w7 at *
 go_wp2_with (first
  | (with_reducible refine Tb.load_t rfl (.tmp 1) rfl w.heap.size rfl N1 ?_)
  | (with_reducible refine Tb.store_t rfl (.tmp 2) (.tmp 15) rfl (w.heap.size+1) rfl rfl N2 ?_))
 refine bodyPost_ret (Tb.res_t1 rfl _ _ (w.heap.size+1) rfl (N2.row _)) rfl ⟨A1,m,p1,B1,k,q1,C1',n,r1,_,rfl,tin_row T3 ⟨MA2,MB2,MC2⟩ _,⟨FA,FB,FC⟩,Tb.below_row B0 (by omega) _⟩
end Go.Proofs.YtcnohlgigmmefaaGreat.Lg
