/- A part. -/
import Derived.Test.YtcnohlgigmmefaaGreatPRoL
import Derived.Test.YtcnohlgigmmefaaGreatPLgB
import Derived.Deep.QuietTactic
import Derived.BigQuiet
namespace Go.Proofs.YtcnohlgigmmefaaGreat.Lg
open Go.RowKit Go.Lib
open Tb (Tab TIn Sl okP csT lastN nth Fresh)
open Dk (St Only Grew)
set_option linter.unusedVariables false
set_option maxRecDepth 100000
theorem res_loc1 {fn:Func} {p' : Tmp} (h:fn.results=#[.cell p' 93]) (tmps:Array Value) (W:World) (b:Nat) {s1 s2:Int} {t:TypeId} (hp:tmps.getD p' undef=.pointer (some ⟨b,0,none⟩)) (L:Tb.Blk W b t #[.int .i64 s1,.int .i64 s2]) :
 (results fn tmps).run Tryz.prog W=.ok (.agg #[.int .i64 s1,.int .i64 s2]) W :=
 results_cell_row h tmps W b t #[.int .i64 s1,.int .i64 s2] (0,0) _ hp L Tryz.underlying93 rfl info_loc
section
variable {w:World} {g d:Nat} {t:Tab} {A:Option Addr} {m p:Nat} {B:Option Addr} {k q:Nat} {C:Option Addr} {n r:Nat} {ls ep gn:Int}
theorem lsn_is (hB:Tb.Blk w g 156 (csL d t.sg t.st A m p B k q C n r ls ep gn)):Calls Tryz.prog 23 #[.pointer (some ⟨g,0,none⟩)] w fun e w'=>e=.returned (.int .u64 ls)∧Below w.heap.size w w':=by
 have c6:w.cell? ⟨g,6,none⟩=some (.int .u64 ls):=hB.cell 6
 go_enter Tryz.func23,Tryz.ntmps23
 go_wp2_with fail
 go_ret
 exact ⟨rfl,Below.refl _ _⟩
theorem epoch_is (hB:Tb.Blk w g 156 (csL d t.sg t.st A m p B k q C n r ls ep gn)):Calls Tryz.prog 24 #[.pointer (some ⟨g,0,none⟩)] w fun e w'=>e=.returned (.int .u32 ep)∧Below w.heap.size w w':=by
 have c6:w.cell? ⟨g,7,none⟩=some (.int .u32 ep):=hB.cell 7
 go_enter Tryz.func24,Tryz.ntmps24
 go_wp2_with fail
 go_ret
 exact ⟨rfl,Below.refl _ _⟩
theorem gen_is (hB:Tb.Blk w g 156 (csL d t.sg t.st A m p B k q C n r ls ep gn)):Calls Tryz.prog 25 #[.pointer (some ⟨g,0,none⟩)] w fun e w'=>e=.returned (.int .u64 gn)∧Below w.heap.size w w':=by
 have c6:w.cell? ⟨g,8,none⟩=some (.int .u64 gn):=hB.cell 8
 go_enter Tryz.func25,Tryz.ntmps25
 go_wp2_with fail
 go_ret
 exact ⟨rfl,Below.refl _ _⟩
theorem end_is (hB:Tb.Blk w g 156 (csL d t.sg t.st A m p B k q C n r ls ep gn)) (ht:TIn w A m B k C n t.o t.l t.f) (hok:okP t) :
 Calls Tryz.prog 173 #[.pointer (some ⟨g,0,none⟩)] w fun e w'=>e=.returned (.agg #[.int .i64 (lastN t.o),.int .i64 (lastN t.l)])∧Below w.heap.size w w':=by
 have hvL:=Tryz.zeroValue93
 have HO:=hok
 have hml:=(Tb.ok_full hok ht).2.2.2.2.1
 have hlo:t.l.length=t.o.length:=hok.2.2.2.2.2.2.1
 have hm:=(Tb.ok_full hok ht).2.1
 have N0:Tb.Blk (w.alloc (.cells #[.int .i64 0,.int .i64 0] 93)) w.heap.size 93 #[.int .i64 0,.int .i64 0]:=Tb.Blk.new w _ _
 have B0:=Tb.below1 w (.cells #[.int .i64 0,.int .i64 0] 93)
 have hB0:=hB.later B0
 have ht0:=ht.later B0
 clear hB ht
 obtain ⟨z,HZ⟩:∃ z,Hid (lastN t.o=z):=⟨_,Lib.hid rfl⟩
 obtain ⟨y,HY⟩:∃ z,Hid (lastN t.l=z):=⟨_,Lib.hid rfl⟩
 rw [HZ.out,HY.out]
 go_enter Tryz.func173,Tryz.ntmps173
 go_upto_region 1 with fail
 generalize w.alloc (.cells #[.int .i64 0,.int .i64 0] 93)=w0 at *
 have hlen:=ht0.a.len
 have ht1:=ht0
 obtain ⟨b,o,rfl,hb,hc⟩:=ht0.a.cells (by omega)
 obtain ⟨i,Hi⟩:∃ i,Hid (m-1=i):=⟨_,Lib.hid rfl⟩
 have him:(i:Int)<(m:Int):=by have:=Hi.out; omega
 have hi0:i<m:=by omega
 have hw:IntKind.i64.wrap ((m:Int)-1)=(i:Int):=by rw [IntWalk.i64_in _ (by omega)]; have:=Hi.out; omega
 have hci:=hc i hi0
 have HLN:Hid (Tb.lenT ⟨t.sg,t.st,t.o,t.l,t.f⟩ z=y):=Lib.hid (by rw [← HZ.out,← HY.out]; exact len_open HO)
 have ez:nth t.o i=z:=by rw [← HZ.out]; unfold lastN; congr 1; have:=Hi.out; omega
 simp only [ez] at hci
 have fg2:∀ jj:In (fun W=>Below w0.heap.size w0 W),jj.W.cell? ⟨g,3,none⟩=some (.slice (some ⟨b,o,none⟩) m p):=fun jj=>(hB0.later jj.h).cell 3
 have fgo:∀ jj:In (fun W=>Below w0.heap.size w0 W),jj.W.cell? ⟨b,o+i,none⟩=some (.int .i64 z):=fun jj=>(jj.h.cell (p:=⟨b,o+i,none⟩) hb).trans hci
 have I:Below w0.heap.size w0 { w0 with drawn:=w0.drawn+1 }:=(Below.refl _ _).drew
 have hne:Nonempty (In (fun W=>Below w0.heap.size w0 W)):=⟨⟨_,I⟩⟩
 clear ez hc hci ht0 hlen hok
 refine region_class (fun W=>Below w0.heap.size w0 W) (by kernel_rfl) (by kernel_rfl) I ?_
 repeat (go_big_quiet_step (fail))
 refine wpQuiet_nil ?_
 rintro _ ⟨jj,rfl⟩
 have hb2:=jj.h
 have hB1:=hB0.later hb2
 have ht2:=ht1.later hb2
 have N1:=N0.later hb2
 have B1:=B0.trans (hb2.mono B0.size)
 clear fg2 fgo I hne hB0 ht1 N0 B0 hb2
 generalize jj.W=w1 at *
 clear jj
 have HL:=Lib.hid (Tb.len_is t.sg t.st _ m p B k q C n r t.o t.l t.f z y w1 ht2 hml hlo HLN.out)
 go_wp2_with (with_reducible refine load_pt rfl (.tmp 21) rfl g rfl hB1 ?_)
 refine HL.out.mono ?_
 rintro e' w2 ⟨rfl,hb3⟩
 have N2:=N1.later hb3
 have B2:=Lib.hid (B1.trans (hb3.mono B1.size))
 clear HL hB1 ht2 N1 B1 hb3
 go_wp2_with (with_reducible refine store_loc rfl (.tmp 2) (.tmp 25) rfl w.heap.size rfl rfl N2 ?_)
 refine bodyPost_ret (res_loc1 rfl _ _ w.heap.size rfl (N2.row _)) rfl ⟨rfl,Tb.below_row B2.out (Nat.le_refl _) _⟩
theorem rolls_is (hB:Tb.Blk w g 156 (csL d t.sg t.st A m p B k q C n r ls ep gn)) (ht:TIn w A m B k C n t.o t.l t.f) (hok:okP t) {R:Bool} (hR:decide (lastN t.l=t.st∧0<Tb.roomT t)=R) :
 Calls Tryz.prog 130 #[.pointer (some ⟨g,0,none⟩)] w fun e w'=>e=.returned (.bool R)∧Below w.heap.size w w':=by
 have HE:Hid (∀ W,Below w.heap.size w W→Calls Tryz.prog 173 #[.pointer (some ⟨g,0,none⟩)] W fun e w'=>e=.returned (.agg #[.int .i64 (lastN t.o),.int .i64 (lastN t.l)])∧Below W.heap.size W w'):=Lib.hid (fun W hb=>end_is (hB.later hb) (ht.later hb) hok)
 obtain ⟨y,Ey⟩:∃ y,Tb.roomT t=y:=⟨_,rfl⟩
 have HRM:Hid (∀ W,Below w.heap.size w W→Calls Tryz.prog 86 #[.agg #[.int .i64 t.sg,.int .i64 t.st,.slice A m p,.slice B k q,.slice C n r]] W fun e w'=>e=.returned (.int .i64 y)∧Below W.heap.size W w'):=Lib.hid (fun W hb=>Tb.room_is t.sg t.st A m p B k q C n r t.o t.l t.f y W (ht.later hb) hok Ey)
 rw [Ey] at hR
 obtain ⟨z,Ez⟩:∃ z,lastN t.l=z:=⟨_,rfl⟩
 obtain ⟨z0,Ez0⟩:∃ z,lastN t.o=z:=⟨_,rfl⟩
 obtain ⟨x,Ex⟩:∃ x,t.st=x:=⟨_,rfl⟩
 obtain ⟨x0,Ex0⟩:∃ x,t.sg=x:=⟨_,rfl⟩
 rw [Ez,Ex] at hR
 rw [Ez,Ez0] at HE
 rw [Ex,Ex0] at HRM hB
 clear ht hok Ey Ez Ez0 Ex Ex0
 have I:Below w.heap.size w { w with drawn:=w.drawn+1 }:=(Below.refl _ _).drew
 have hne:Nonempty (In (fun W=>Below w.heap.size w W)):=⟨⟨_,I⟩⟩
 have hfd:∀ w:World,(Instr.field 93 (.agg #[.int .i64 z0,.int .i64 z]) 1).run Tryz.prog w=.ok (.int .i64 z) w:=fun _=>by kernel_rfl
 have f1:∀ jj:In (fun W=>Below w.heap.size w W),jj.W.cell? ⟨g,1,none⟩=some (.int .i64 x0):=fun jj=>(hB.later jj.h).cell 1
 have f2:∀ jj:In (fun W=>Below w.heap.size w W),jj.W.cell? ⟨g,2,none⟩=some (.int .i64 x):=fun jj=>(hB.later jj.h).cell 2
 have f3:∀ jj:In (fun W=>Below w.heap.size w W),jj.W.cell? ⟨g,3,none⟩=some (.slice A m p):=fun jj=>(hB.later jj.h).cell 3
 have f4:∀ jj:In (fun W=>Below w.heap.size w W),jj.W.cell? ⟨g,4,none⟩=some (.slice B k q):=fun jj=>(hB.later jj.h).cell 4
 have f5:∀ jj:In (fun W=>Below w.heap.size w W),jj.W.cell? ⟨g,5,none⟩=some (.slice C n r):=fun jj=>(hB.later jj.h).cell 5
 clear hB
 by_cases hz:z=x
 ·subst hz
  have hz1:(z == z)=true:=by simp
  have hR2:decide (0<y)=R:=by rw [← hR]; simp
  clear hR
  go_enter Tryz.func130,Tryz.ntmps130
  go_wp2_with fail
  refine region_class (fun W=>Below w.heap.size w W) (by kernel_rfl) (by kernel_rfl) I ?_
  repeat (go_big_quiet_step (first
   | (go_at_call 173; with_reducible exact class_call _ (fun hi=>(HE.out _ hi).mono fun e w' ⟨he,hb⟩=>⟨he,hi.trans (hb.mono hi.size)⟩))
   | (go_at_call 86; with_reducible exact class_call _ (fun hi=>(HRM.out _ hi).mono fun e w' ⟨he,hb⟩=>⟨he,hi.trans (hb.mono hi.size)⟩))))
  refine wpQuiet_nil ?_
  rintro _ ⟨jj,rfl⟩
  have hb2:=jj.h
  go_wp2_with fail
  go_ret
  exact ⟨by simp [← hR2],hb2⟩
 ·have hz2:(z == x)=false:=by simpa using hz
  obtain rfl:false=R:=by rw [← hR]; simp [hz]
  clear hR hz
  go_enter Tryz.func130,Tryz.ntmps130
  go_wp2_with fail
  refine region_class (fun W=>Below w.heap.size w W) (by kernel_rfl) (by kernel_rfl) I ?_
  repeat (go_big_quiet_step (first
   | (go_at_call 173; with_reducible exact class_call _ (fun hi=>(HE.out _ hi).mono fun e w' ⟨he,hb⟩=>⟨he,hi.trans (hb.mono hi.size)⟩))
   | (go_at_call 86; with_reducible exact class_call _ (fun hi=>(HRM.out _ hi).mono fun e w' ⟨he,hb⟩=>⟨he,hi.trans (hb.mono hi.size)⟩))))
  refine wpQuiet_nil ?_
  rintro _ ⟨jj,rfl⟩
  have hb2:=jj.h
  go_wp2_with fail
  go_ret
  exact ⟨rfl,hb2⟩
theorem place_is (hB:Tb.Blk w g 156 (csL d t.sg t.st A m p B k q C n r ls ep gn)) (seg slot:Int) :
 Calls Tryz.prog 146 #[.pointer (some ⟨g,0,none⟩),.agg #[.int .i64 seg,.int .i64 slot]] w fun e w'=>e=.returned (.int .i64 (Tb.sectorT t.st seg slot))∧Below w.heap.size w w':=by
 have N0:Tb.Blk (w.alloc (.cells #[.int .i64 seg,.int .i64 slot] 93)) w.heap.size 93 #[.int .i64 seg,.int .i64 slot]:=Tb.Blk.new w _ _
 have B0:=Tb.below1 w (.cells #[.int .i64 seg,.int .i64 slot] 93)
 have hB0:=hB.later B0
 obtain ⟨x,Ex⟩:∃ x,t.st=x:=⟨_,rfl⟩
 rw [Ex] at hB0 ⊢
 clear hB Ex
 obtain ⟨b,Eb⟩:∃ b,w.heap.size=b:=⟨_,rfl⟩
 have HEb:=Lib.hid Eb
 go_enter Tryz.func146,Tryz.ntmps146
 go_upto_region 1 with fail
 rw [Eb] at N0
 clear Eb
 generalize w.alloc (.cells #[.int .i64 seg,.int .i64 slot] 93)=w0 at *
 have I:Below w0.heap.size w0 { w0 with drawn:=w0.drawn+1 }:=(Below.refl _ _).drew
 have hne:Nonempty (In (fun W=>Below w0.heap.size w0 W)):=⟨⟨_,I⟩⟩
 have f2:∀ jj:In (fun W=>Below w0.heap.size w0 W),jj.W.cell? ⟨g,2,none⟩=some (.int .i64 x):=fun jj=>(hB0.later jj.h).cell 2
 have f3:∀ jj:In (fun W=>Below w0.heap.size w0 W),jj.W.cell? ⟨b,0,none⟩=some (.int .i64 seg):=fun jj=>(N0.later jj.h).cell 0
 have f4:∀ jj:In (fun W=>Below w0.heap.size w0 W),jj.W.cell? ⟨b,1,none⟩=some (.int .i64 slot):=fun jj=>(N0.later jj.h).cell 1
 clear N0 hB0
 refine region_class (fun W=>Below w0.heap.size w0 W) (by kernel_rfl) (by kernel_rfl) I ?_
 repeat (go_big_quiet_step (first
  | (go_at_call 160; with_reducible exact class_call _ (fun hi=>(Tb.tsector_any _ _ _ _).mono fun e w' ⟨he,hb⟩=>⟨he,hi.trans (hb.mono hi.size)⟩))))
 refine wpQuiet_nil ?_
 rintro _ ⟨jj,rfl⟩
 have hb2:=B0.trans (jj.h.mono B0.size)
 go_wp2_with fail
 go_ret
 exact ⟨rfl,by rw [HEb.out]; rw [HEb.out] at hb2; exact hb2⟩
end
theorem okR_any {l l' e e' k v d:Int} {i a:List UInt8} (h:l≠0) (h' : l'≠0):Rc.okR ⟨l,e,k,v,d,i,a⟩=Rc.okR ⟨l',e',k,v,d,i,a⟩:=by
 rw [Bool.eq_iff_iff,Rc.okR_iff,Rc.okR_iff]
 exact ⟨fun ⟨_,x⟩=>⟨h',x⟩,fun ⟨_,x⟩=>⟨h,x⟩⟩
section
variable {ops:Array Oper} {rest:List Oper} {o:Oper} {a:Act} {w:World} {Q:Exit→Act→World→Prop}
theorem load_rp (hgd:o.guard=none) (x:Operand) (ho:o.op=.load 97 x) (b:Nat) (hx:a.eval x=.pointer (some ⟨b,0,none⟩)) {l0 e0 K V D:Int} {I X:ByteArray} {t:TypeId} (hg:Tb.Blk w b t #[.int .u64 l0,.int .u32 e0,.int .i64 K,.int .u64 V,.int .u64 D,.string I,.string X])
 (h:wpList Tryz.prog ops Q rest (a.put o.dst (.agg #[.int .u64 l0,.int .u32 e0,.int .i64 K,.int .u64 V,.int .u64 D,.string I,.string X])) w):wpList Tryz.prog ops Q (o :: rest) a w :=
 wpList_load_row hgd _ x ho b hx _ #[.int .u64 l0,.int .u32 e0,.int .i64 K,.int .u64 V,.int .u64 D,.string I,.string X] (0,0) _ hg Tryz.underlying97 rfl (by kernel_rfl) h
end
set_option maxHeartbeats 2000000 in
theorem takes_is {w:World} {g d:Nat} {t:Tab} {A:Option Addr} {m p:Nat} {B:Option Addr} {k q:Nat} {C:Option Addr} {n r:Nat} {ls ep gn:Int} (hB:Tb.Blk w g 156 (csL d t.sg t.st A m p B k q C n r ls ep gn)) (ht:TIn w A m B k C n t.o t.l t.f) (hok:okP t) (l0 e0 K V D:Int) (I X:ByteArray) (hls:1≤ls∧ls+2<18446744073709551616) (hI:I.size≤maxLen) (hX:X.size≤maxLen)
 {R:Bool} (hR0:(decide (K≠3) && Rc.okR ⟨ls,e0,K,V,D,I.data.toList,X.data.toList⟩)=R) :
 Calls Tryz.prog 85 #[.pointer (some ⟨g,0,none⟩),.agg #[.int .u64 l0,.int .u32 e0,.int .i64 K,.int .u64 V,.int .u64 D,.string I,.string X]] w fun e w'=>e=.returned (.bool R)∧Below w.heap.size w w':=by
 have N0:Tb.Blk (w.alloc (.cells #[.int .u64 l0,.int .u32 e0,.int .i64 K,.int .u64 V,.int .u64 D,.string I,.string X] 97)) w.heap.size 97 #[.int .u64 l0,.int .u32 e0,.int .i64 K,.int .u64 V,.int .u64 D,.string I,.string X]:=Tb.Blk.new w _ _
 have B0:=Tb.below1 w (.cells #[.int .u64 l0,.int .u32 e0,.int .i64 K,.int .u64 V,.int .u64 D,.string I,.string X] 97)
 have hR:=Lib.hid hR0
 have HLS:=Lib.hid hls
 have hB0:=hB.later B0
 have ht0:=ht.later B0
 have hnb:∀ b,w.heap.size≤b→Nb3 A B C b:=fun b hb=>tin_nb hok ht hb
 clear hB ht hR0
 go_enter Tryz.func85,Tryz.ntmps85
 go_upto_region 1 with fail
 obtain ⟨b,Eb⟩:∃ b,w.heap.size=b:=⟨_,rfl⟩
 rw [Eb] at N0
 generalize w.alloc (.cells #[.int .u64 l0,.int .u32 e0,.int .i64 K,.int .u64 V,.int .u64 D,.string I,.string X] 97)=w0 at *
 have c6:w0.cell? ⟨g,6,none⟩=some (.int .u64 ls):=hB0.cell 6
 have x0:w0.cell? ⟨b,0,none⟩=some (.int .u64 l0):=N0.cell 0
 have y0:=N0.frozen 0
 have hne:b≠g:=blk_ne N0 hB0 (by decide)
 have hE1:w0.setCell ⟨b,0,none⟩ (.int .u64 ls)=w0.setRow b #[.int .u64 ls,.int .u32 e0,.int .i64 K,.int .u64 V,.int .u64 D,.string I,.string X]:=set_row N0 0 (.int .u64 ls)
 have N1:=N0.row #[.int .u64 ls,.int .u32 e0,.int .i64 K,.int .u64 V,.int .u64 D,.string I,.string X]
 have hB1:Tb.Blk (w0.setRow b #[.int .u64 ls,.int .u32 e0,.int .i64 K,.int .u64 V,.int .u64 D,.string I,.string X]) g 156 (csL d t.sg t.st A m p B k q C n r ls ep gn):=(setRow_other w0 b g _ hne.symm).trans hB0
 have B1:=Tb.below_row B0 (show w.heap.size≤b by omega) #[.int .u64 ls,.int .u32 e0,.int .i64 K,.int .u64 V,.int .u64 D,.string I,.string X]
 have hnb:=hnb b (by omega)
 have ht1:TIn (w0.setRow b #[.int .u64 ls,.int .u32 e0,.int .i64 K,.int .u64 V,.int .u64 D,.string I,.string X]) A m B k C n t.o t.l t.f:=tin_row ht0 hnb _
 go_upto_region 2 with fail
 clear hE1 c6 x0 y0 N0 hB0 ht0 B0 hne hnb
 generalize w0.setRow b #[.int .u64 ls,.int .u32 e0,.int .i64 K,.int .u64 V,.int .u64 D,.string I,.string X]=w1 at *
 obtain ⟨RR,ERR⟩:∃ z,decide (lastN t.l=t.st∧0<Tb.roomT t)=z:=⟨_,rfl⟩
 have HRL:=Lib.hid (rolls_is hB1 ht1 hok ERR)
 clear hB1 ht1 ERR hok hls
 go_wp2_with fail
 refine HRL.out.mono ?_
 rintro e' w2 ⟨rfl,hb2⟩
 have N2:=N1.later hb2
 have B2:=Lib.hid (B1.trans (hb2.mono B1.size))
 clear HRL hb2 N1 B1
 cases RR with
 | false =>
   go_upto_region 4 with fail
   have N3:=N2
   have B3:=B2
   clear N2 B2
   generalize w2=W3 at *
   have k2:W3.cell? ⟨b,2,none⟩=some (.int .i64 K):=N3.cell 2
   by_cases hK:K=3
   ·have hk:(K != 3)=false:=by simp [hK]
    obtain rfl:false=R:=by rw [← hR.out]; simp [hK]
    clear hK
    go_wp2_with fail
    go_ret
    exact ⟨rfl,B3.out⟩
   ·have hk:(K != 3)=true:=by simpa using hK
    have hR2:Rc.okR ⟨ls,e0,K,V,D,I.data.toList,X.data.toList⟩=R:=by rw [← hR.out,okR_any (l:=ls) (l':=ls) (e:=e0) (e':=e0) (by have:=HLS.out; omega) (by have:=HLS.out; omega)]; simp [hK]
    have HC:=Lib.hid (Rc.right_any ls e0 K V D I X R W3 hI hX hR2)
    clear hK hR2
    have k0:W3.cell? ⟨b,0,none⟩=some (.int .u64 ls):=N3.cell 0
    have k1:W3.cell? ⟨b,1,none⟩=some (.int .u32 e0):=N3.cell 1
    have k2:W3.cell? ⟨b,2,none⟩=some (.int .i64 K):=N3.cell 2
    have k3:W3.cell? ⟨b,3,none⟩=some (.int .u64 V):=N3.cell 3
    have k4:W3.cell? ⟨b,4,none⟩=some (.int .u64 D):=N3.cell 4
    have k5:W3.cell? ⟨b,5,none⟩=some (.string I):=N3.cell 5
    have k6:W3.cell? ⟨b,6,none⟩=some (.string X):=N3.cell 6
    go_wp2_with fail
    refine HC.out.mono ?_
    rintro e' w9 ⟨rfl,hb9⟩
    have B9:=Lib.hid (B3.out.trans (hb9.mono B3.out.size))
    clear HC hb9
    go_wp2_with fail
    go_ret
    exact ⟨rfl,B9.out⟩
 | true =>
   have x0:w2.cell? ⟨b,0,none⟩=some (.int .u64 ls):=N2.cell 0
   have y0:=N2.frozen 0
   have ew:IntKind.u64.wrap (ls+1)=ls+1:=by rw [IntKind.wrap_u64]; have:=HLS.out; omega
   have hE2:w2.setCell ⟨b,0,none⟩ (.int .u64 (ls+1))=w2.setRow b #[.int .u64 (ls+1),.int .u32 e0,.int .i64 K,.int .u64 V,.int .u64 D,.string I,.string X]:=set_row N2 0 (.int .u64 (ls+1))
   have N3:=N2.row #[.int .u64 (ls+1),.int .u32 e0,.int .i64 K,.int .u64 V,.int .u64 D,.string I,.string X]
   have B3:=Lib.hid (Tb.below_row B2.out (show w.heap.size≤b by omega) #[.int .u64 (ls+1),.int .u32 e0,.int .i64 K,.int .u64 V,.int .u64 D,.string I,.string X])
   go_upto_region 4 with fail
   clear hE2 x0 y0 N2 B2 ew
   generalize w2.setRow b #[.int .u64 (ls+1),.int .u32 e0,.int .i64 K,.int .u64 V,.int .u64 D,.string I,.string X]=W3 at *
   have k2:W3.cell? ⟨b,2,none⟩=some (.int .i64 K):=N3.cell 2
   by_cases hK:K=3
   ·have hk:(K != 3)=false:=by simp [hK]
    obtain rfl:false=R:=by rw [← hR.out]; simp [hK]
    clear hK
    go_wp2_with fail
    go_ret
    exact ⟨rfl,B3.out⟩
   ·have hk:(K != 3)=true:=by simpa using hK
    have hR2:Rc.okR ⟨(ls+1),e0,K,V,D,I.data.toList,X.data.toList⟩=R:=by rw [← hR.out,okR_any (l:=(ls+1)) (l':=ls) (e:=e0) (e':=e0) (by have:=HLS.out; omega) (by have:=HLS.out; omega)]; simp [hK]
    have HC:=Lib.hid (Rc.right_any (ls+1) e0 K V D I X R W3 hI hX hR2)
    clear hK hR2
    have k0:W3.cell? ⟨b,0,none⟩=some (.int .u64 (ls+1)):=N3.cell 0
    have k1:W3.cell? ⟨b,1,none⟩=some (.int .u32 e0):=N3.cell 1
    have k2:W3.cell? ⟨b,2,none⟩=some (.int .i64 K):=N3.cell 2
    have k3:W3.cell? ⟨b,3,none⟩=some (.int .u64 V):=N3.cell 3
    have k4:W3.cell? ⟨b,4,none⟩=some (.int .u64 D):=N3.cell 4
    have k5:W3.cell? ⟨b,5,none⟩=some (.string I):=N3.cell 5
    have k6:W3.cell? ⟨b,6,none⟩=some (.string X):=N3.cell 6
    go_wp2_with fail
    refine HC.out.mono ?_
    rintro e' w9 ⟨rfl,hb9⟩
    have B9:=Lib.hid (B3.out.trans (hb9.mono B3.out.size))
    clear HC hb9
    go_wp2_with fail
    go_ret
    exact ⟨rfl,B9.out⟩
end Go.Proofs.YtcnohlgigmmefaaGreat.Lg
