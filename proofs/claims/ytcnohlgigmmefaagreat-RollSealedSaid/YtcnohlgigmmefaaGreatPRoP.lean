/- A part. -/
import Derived.Test.YtcnohlgigmmefaaGreatPRoL
import Derived.Test.YtcnohlgigmmefaaGreatPLhN
import Derived.Deep.RegionLaw
import Derived.IntWalk
import Derived.BigQuiet
import Derived.Deep.LoopGhost
import Derived.Deep.RegionWith
namespace Go.Proofs.YtcnohlgigmmefaaGreat.Ro
open Go.RowKit Go.Lib
open Tb (Tab TIn Sl okP csT lastN nth Fresh)
open Dk (St Only Grew)
open Lg (locI rowS loc_cell loc_whole loc_alloc loc_blk store_loc res_loc1)
set_option linter.unusedVariables false
set_option maxRecDepth 100000
theorem dread_b {W0 w:World} {items:List Dk.Item} {k d:Nat} {s:St} (h:Dk.Sep W0 w items) (hk:items[k]? = some (Dk.diskI d s)) (i:Int) (hi:s.has i) :
 Calls Tryz.prog 75 #[.pointer (some ⟨d,0,none⟩),.int .i64 i] w fun e w'=>e=.returned (.tuple #[.string (s.cur i),.int .i64 0])∧Below w.heap.size w w':=by
 obtain ⟨G,D,_⟩:=h.at_ k hk
 exact Dk.read_yes D i hi
theorem psec_any {W0 w:World} {items:List Dk.Item} {k d:Nat} {s:St} (h:Dk.Sep W0 w items) (hk:items[k]? = some (Dk.diskI d s)) (sg st seg slot:Int) (vO vN vT:Value) (hhas:s.has (Tb.sectorT st seg slot)) (S:ByteArray) (hS:s.cur (Tb.sectorT st seg slot)=S) :
 Calls Tryz.prog 114 #[.pointer (some ⟨d,0,none⟩),.agg #[.int .i64 sg,.int .i64 st,vO,vN,vT],.agg #[.int .i64 seg,.int .i64 slot]] w fun e w'=>e=.returned (.string S)∧Below w.heap.size w w':=by
 have K1:Tb.Blk ((w.alloc (.cells #[.int .i64 sg,.int .i64 st,vO,vN,vT] 45)).alloc (.cells #[.int .i64 seg,.int .i64 slot] 93)) w.heap.size 45 #[.int .i64 sg,.int .i64 st,vO,vN,vT]:=(Tb.Blk.new w _ _).later (NewC.below1 _ _)
 have K2:Tb.Blk ((w.alloc (.cells #[.int .i64 sg,.int .i64 st,vO,vN,vT] 45)).alloc (.cells #[.int .i64 seg,.int .i64 slot] 93)) (w.heap.size+1) 93 #[.int .i64 seg,.int .i64 slot]:=Tb.Blk.at_ _ _ _ (by simp)
 have B:=Lib.hid (NewC.geTrans (NewC.below1 w (.cells #[.int .i64 sg,.int .i64 st,vO,vN,vT] 45)) (NewC.below1 _ (.cells #[.int .i64 seg,.int .i64 slot] 93)))
 obtain ⟨i0,Hi⟩:∃ z,Hid (Tb.sectorT st seg slot=z):=⟨_,Lib.hid rfl⟩
 have HH:=Lib.hid h
 have Q2:Hid (∀ W,Calls Tryz.prog 160 #[.int .i64 st,.agg #[.int .i64 seg,.int .i64 slot]] W fun e w'=>e=.returned (.int .i64 i0)∧Below W.heap.size W w'):=Lib.hid (fun W=>by rw [← Hi.out]; exact Tb.tsector_any st seg slot W)
 have Q3:Hid (∀ W,Below w.heap.size w W→Calls Tryz.prog 75 #[.pointer (some ⟨d,0,none⟩),.int .i64 i0] W fun e w'=>e=.returned (.tuple #[.string S,.int .i64 0])∧Below W.heap.size W w'):=Lib.hid (fun W hb=>by rw [← hS,Hi.out]; exact dread_b (HH.out.later hb) hk i0 (by rw [← Hi.out]; exact hhas))
 clear h hS
 go_enter Tryz.func114,Tryz.ntmps114
 go_upto_region 1 with fail
 generalize ((w.alloc (.cells #[.int .i64 sg,.int .i64 st,vO,vN,vT] 45)).alloc (.cells #[.int .i64 seg,.int .i64 slot] 93))=W1 at *
 have c1:W1.cell? ⟨w.heap.size,1,none⟩=some (.int .i64 st):=K1.cell 1
 have l0:W1.cell? ⟨w.heap.size+1,0,none⟩=some (.int .i64 seg):=K2.cell 0
 have l1:W1.cell? ⟨w.heap.size+1,1,none⟩=some (.int .i64 slot):=K2.cell 1
 clear K1 K2
 go_wp2_with fail
 refine (Q2.out _).mono ?_
 rintro e' w2 ⟨rfl,hb⟩
 have BB:=Lib.hid (NewC.geTrans B.out hb)
 clear hb
 go_wp2_with fail
 refine (Q3.out _ BB.out).mono ?_
 rintro e' w3 ⟨rfl,hb⟩
 have BB3:=Lib.hid (NewC.geTrans BB.out hb)
 clear hb
 go_wp2_with fail
 go_ret
 exact ⟨rfl,BB3.out⟩
theorem pend_any {w:World} {t:Tab} {A:Option Addr} {m:Nat} (p:Nat) {B:Option Addr} {k:Nat} (q:Nat) {C:Option Addr} {n:Nat} (r:Nat) (ht:TIn w A m B k C n t.o t.l t.f) (hok:okP t) :
 Calls Tryz.prog 115 #[.agg #[.int .i64 t.sg,.int .i64 t.st,.slice A m p,.slice B k q,.slice C n r]] w fun e w'=>e=.returned (.agg #[.int .i64 (lastN t.o),.int .i64 (lastN t.l)])∧Below w.heap.size w w':=by
 have hvL:=Tryz.zeroValue93
 have HO:=hok
 have hml:=(Tb.ok_full hok ht).2.2.2.2.1
 have hlo:t.l.length=t.o.length:=hok.2.2.2.2.2.2.1
 have hm:=(Tb.ok_full hok ht).2.1
 have K1:Tb.Blk ((w.alloc (.cells (csT t.sg t.st A m p B k q C n r) 45)).alloc (.cells #[.int .i64 0,.int .i64 0] 93)) w.heap.size 45 (csT t.sg t.st A m p B k q C n r):=(Tb.Blk.new w _ _).later (NewC.below1 _ _)
 have K2:Tb.Blk ((w.alloc (.cells (csT t.sg t.st A m p B k q C n r) 45)).alloc (.cells #[.int .i64 0,.int .i64 0] 93)) (w.heap.size+1) 93 #[.int .i64 0,.int .i64 0]:=Tb.Blk.at_ _ _ _ (by simp)
 have B0:=NewC.geTrans (NewC.below1 w (.cells (csT t.sg t.st A m p B k q C n r) 45)) (NewC.below1 _ (.cells #[.int .i64 0,.int .i64 0] 93))
 have ht0:=ht.later B0
 clear ht
 obtain ⟨z,HZ⟩:∃ z,Hid (lastN t.o=z):=⟨_,Lib.hid rfl⟩
 obtain ⟨y,HY⟩:∃ z,Hid (lastN t.l=z):=⟨_,Lib.hid rfl⟩
 rw [HZ.out,HY.out]
 go_enter Tryz.func115,Tryz.ntmps115
 go_upto_region 1 with fail
 change Code.wp _ _ _ _ ((w.alloc (.cells (csT t.sg t.st A m p B k q C n r) 45)).alloc (.cells #[.int .i64 0,.int .i64 0] 93))
 generalize ((w.alloc (.cells (csT t.sg t.st A m p B k q C n r) 45)).alloc (.cells #[.int .i64 0,.int .i64 0] 93))=w0 at *
 have hlen:=ht0.a.len
 have ht1:=ht0
 obtain ⟨b,o,rfl,hb,hc⟩:=ht0.a.cells (by omega)
 obtain ⟨i,Hi⟩:∃ i,Hid (m-1=i):=⟨_,Lib.hid rfl⟩
 have him:(i:Int)<(m:Int):=by have:=Hi.out; omega
 have hi0:i<m:=by omega
 have hw:IntKind.i64.wrap ((m:Int)-1)=(i:Int):=by rw [IntWalk.i64_in _ (by omega)]; have:=Hi.out; omega
 have hci:=hc i hi0
 have HLN:Hid (Tb.lenT ⟨t.sg,t.st,t.o,t.l,t.f⟩ z=y):=Lib.hid (by rw [← HZ.out,← HY.out]; exact Lg.len_open HO)
 have ez:nth t.o i=z:=by rw [← HZ.out]; unfold lastN; congr 1; have:=Hi.out; omega
 simp only [ez] at hci
 have c2:w0.cell? ⟨w.heap.size,2,none⟩=some (.slice (some ⟨b,o,none⟩) m p):=K1.cell 2
 have HL:=Lib.hid (Tb.len_is t.sg t.st _ m p B k q C n r t.o t.l t.f z y w0 ht1 hml hlo HLN.out)
 clear ez hc ht0 hlen hok ht1
 go_upto_region 2 with fail
 go_wp2_with (with_reducible refine Tb.load_t rfl (.tmp 1) rfl w.heap.size rfl K1 ?_)
 refine HL.out.mono ?_
 rintro e' w2 ⟨rfl,hb3⟩
 have N2:=K2.later hb3
 have B2:=Lib.hid (NewC.geTrans B0 hb3)
 clear HL K1 K2 B0 hb3 c2 hci
 go_wp2_with (with_reducible refine store_loc rfl (.tmp 2) (.tmp 16) rfl (w.heap.size+1) rfl rfl N2 ?_)
 refine bodyPost_ret (res_loc1 rfl _ _ (w.heap.size+1) rfl (N2.row _)) rfl ⟨rfl,Tb.below_row B2.out (by omega) _⟩
def leadB (t:Tab) (d:Int):Bool:=match Tb.freeT t with
 | []=>false
 | f :: _=>d == f
theorem pleads_any {w:World} {t:Tab} {A:Option Addr} {m:Nat} (p:Nat) {B:Option Addr} {k:Nat} (q:Nat) {C:Option Addr} {n:Nat} (r:Nat) (ht:TIn w A m B k C n t.o t.l t.f) (hok:okP t) (l e k0 v d:Int) (I X:ByteArray) :
 Calls Tryz.prog 118 #[.agg #[.int .u64 l,.int .u32 e,.int .i64 k0,.int .u64 v,.int .u64 d,.string I,.string X],.agg #[.int .i64 t.sg,.int .i64 t.st,.slice A m p,.slice B k q,.slice C n r]] w fun e w'=>e=.returned (.bool (leadB t d))∧Below w.heap.size w w':=by
 have hml:=(Tb.ok_full hok ht).2.2.2.2.1
 have HO:=Lib.hid hok
 obtain ⟨LB,HLB⟩:∃ z,Hid (leadB t d=z):=⟨_,Lib.hid rfl⟩
 rw [HLB.out]
 have hsg:0≤t.sg∧t.sg≤16:=by have:=hok.1; omega
 have K1:Tb.Blk ((w.alloc (.cells #[.int .u64 l,.int .u32 e,.int .i64 k0,.int .u64 v,.int .u64 d,.string I,.string X] 97)).alloc (.cells (csT t.sg t.st A m p B k q C n r) 45)) w.heap.size 97 #[.int .u64 l,.int .u32 e,.int .i64 k0,.int .u64 v,.int .u64 d,.string I,.string X]:=(Tb.Blk.new w _ _).later (NewC.below1 _ _)
 have K2:Tb.Blk ((w.alloc (.cells #[.int .u64 l,.int .u32 e,.int .i64 k0,.int .u64 v,.int .u64 d,.string I,.string X] 97)).alloc (.cells (csT t.sg t.st A m p B k q C n r) 45)) (w.heap.size+1) 45 (csT t.sg t.st A m p B k q C n r):=Tb.Blk.at_ _ _ _ (by simp)
 have B0:=NewC.geTrans (NewC.below1 w (.cells #[.int .u64 l,.int .u32 e,.int .i64 k0,.int .u64 v,.int .u64 d,.string I,.string X] 97)) (NewC.below1 _ (.cells (csT t.sg t.st A m p B k q C n r) 45))
 have HF:=Lib.hid (Tb.tfree_any t.sg t.st A m p B k q C n r t.o t.l t.f _ (ht.later B0) hml hsg)
 clear ht hok
 go_enter Tryz.func118,Tryz.ntmps118
 go_upto_region 1 with fail
 change Code.wp _ _ _ _ ((w.alloc (.cells #[.int .u64 l,.int .u32 e,.int .i64 k0,.int .u64 v,.int .u64 d,.string I,.string X] 97)).alloc (.cells (csT t.sg t.st A m p B k q C n r) 45))
 generalize ((w.alloc (.cells #[.int .u64 l,.int .u32 e,.int .i64 k0,.int .u64 v,.int .u64 d,.string I,.string X] 97)).alloc (.cells (csT t.sg t.st A m p B k q C n r) 45))=w0 at *
 go_wp2_with (with_reducible refine Tb.load_t rfl (.tmp 3) rfl (w.heap.size+1) rfl K2 ?_)
 refine HF.out.mono ?_
 rintro e' w2 ⟨D,c,p2,rfl,hs,hb⟩
 have B2:=Lib.hid (NewC.geTrans B0 hb)
 have N1:=K1.later hb
 have hlen:=Lib.hid hs.len
 clear HF K1 K2 B0 hb
 have I0:Below w2.heap.size w2 { w2 with drawn:=w2.drawn+1 }:=(Below.refl _ _).drew
 have hne:Nonempty (In (fun W=>Below w2.heap.size w2 W)):=⟨⟨_,I0⟩⟩
 have f4:∀ jj:In (fun W=>Below w2.heap.size w2 W),jj.W.cell? ⟨w.heap.size,4,none⟩=some (.int .u64 d):=fun jj=>(N1.later jj.h).cell 4
 cases hfr:Tb.freeT t with
 | nil =>
   obtain rfl:false=LB:=by rw [← HLB.out]; unfold leadB; rw [hfr]
   have hz:c=0:=by rw [hlen.out]; exact congrArg List.length hfr
   subst hz
   go_wp2_with fail
   refine region_class (fun W=>Below w2.heap.size w2 W) (by kernel_rfl) (by kernel_rfl) I0 ?_
   repeat (go_big_quiet_step (fail))
   refine wpQuiet_nil ?_
   rintro _ ⟨jj,rfl⟩
   have BB:=Lib.hid (NewC.geTrans B2.out jj.h)
   clear f4 hne I0
   go_wp2_with fail
   go_ret
   exact ⟨rfl,BB.out⟩
 | cons f0 fs =>
   obtain rfl:(d == f0)=LB:=by rw [← HLB.out]; unfold leadB; rw [hfr]
   have hz:0<c:=by
    have h1:c=(Tb.freeT t).length:=hlen.out
    rw [hfr] at h1
    simp at h1
    omega
   have hz2:(0:Int)<(c:Int):=by omega
   have hfi:=Tb.free_in (t:=t) (s:=f0) (by rw [hfr]; exact List.mem_cons_self ..) (by omega)
   have hsg16:t.sg≤16:=hsg.2
   have w1:IntKind.u64.wrap f0=f0:=by have h1:=hfi.1; have h2:=hfi.2.1; rw [IntKind.wrap_u64]; omega
   obtain ⟨b,o,rfl,hb,hc⟩:=hs.cells hz
   have hc0:w2.cell? ⟨b,o,none⟩=some (.int .i64 (nth (Tb.freeT t) 0)):=hc 0 hz
   have e0:nth (Tb.freeT t) 0=f0:=by rw [hfr]; rfl
   rw [e0] at hc0
   have f5:∀ jj:In (fun W=>Below w2.heap.size w2 W),jj.W.cell? ⟨b,o,none⟩=some (.int .i64 f0):=fun jj=>(jj.h.cell (p:=⟨b,o,none⟩) hb).trans hc0
   clear hfr hfi hs hc hc0 e0 hlen
   go_wp2_with fail
   refine region_class (fun W=>Below w2.heap.size w2 W) (by kernel_rfl) (by kernel_rfl) I0 ?_
   repeat (go_big_quiet_step (fail))
   refine wpQuiet_nil ?_
   rintro _ ⟨jj,rfl⟩
   have BB:=Lib.hid (NewC.geTrans B2.out jj.h)
   clear f4 f5 hne I0
   go_wp2_with fail
   go_ret
   exact ⟨rfl,BB.out⟩
end Go.Proofs.YtcnohlgigmmefaaGreat.Ro
namespace Go.Proofs.YtcnohlgigmmefaaGreat.Ro
open Go.RowKit Go.Lib
open Tb (Tab TIn Sl okP csT lastN nth Fresh)
open Dk (St Only Grew)
open Lg (locI rowS loc_cell loc_whole loc_alloc loc_blk)
set_option linter.unusedVariables false
set_option maxRecDepth 100000
theorem pfound_infos:(Tryz.prog.info? 101).map (fun i=>(i.zero,i.size,i.bytes))=some (some (.agg #[.int .i64 0,.int .i64 0,.int .u64 0,.int .u32 0,.int .i64 0,.int .u64 0,.int .u64 0,.string ⟨#[]⟩,.string ⟨#[]⟩]),9,88):=by kernel_rfl
def allI (b:Nat) (F:Option Addr) (n p:Nat):Dk.Item:=locI [(b,46,#[.slice F n p])]
def fndI (F:Option Addr) (p:Nat) (f:List Fd):Dk.Item:=rowS 101 9 (.slice F f.length p) f.length (f.flatMap fdC)
theorem found_any {W w:World} {items:List Dk.Item} {ia ir ba:Nat} {f:List Fd} {F:Option Addr} {p:Nat} (h:Dk.Sep W w items) (ha:items[ia]? = some (allI ba F f.length p)) (hr:items[ir]? = some (fndI F p f)) (hne:ia≠ir) (hf:f.length<1000) (seg slot:Int) (rc:Rc.Rec) :
 Calls Tryz.prog 59 #[.agg #[.int .i64 seg,.int .i64 slot],.agg (recC rc),.pointer (some ⟨ba,0,none⟩)] w fun e w'=>e=.returned (.tuple #[])∧∃ F' p',Dk.Sep W w' ((items.set ia (allI ba F' (f++[((seg,slot),rc)]).length p')).set ir (fndI F' p' (f++[((seg,slot),rc)]))):=by
 obtain ⟨n,hn⟩:∃ z,f.length=z:=⟨_,rfl⟩
 obtain ⟨xs,hx⟩:∃ z,f.flatMap fdC=z:=⟨_,rfl⟩
 have E1:(f++[((seg,slot),rc)]).flatMap fdC=xs++[.int .i64 seg,.int .i64 slot,.int .u64 rc.l,.int .u32 rc.e,.int .i64 rc.k,.int .u64 rc.v,.int .u64 rc.d,.string ⟨rc.i.toArray⟩,.string ⟨rc.a.toArray⟩]:=by
  rw [List.flatMap_append,hx]
  simp [fdC]
 have E2:(f++[((seg,slot),rc)]).length=n+1:=by rw [List.length_append,hn]; rfl
 unfold fndI at hr ⊢
 rw [E1,E2]
 rw [hn] at ha hr hf
 rw [hx] at hr
 clear E1 E2 hn hx
 unfold recC
 obtain ⟨I,hI⟩:∃ z:ByteArray,(⟨rc.i.toArray⟩:ByteArray)=z:=⟨_,rfl⟩
 obtain ⟨X,hX⟩:∃ z:ByteArray,(⟨rc.a.toArray⟩:ByteArray)=z:=⟨_,rfl⟩
 rw [hI,hX]
 clear hI hX
 have K1:Tb.Blk ((w.alloc (.cells #[.int .i64 seg,.int .i64 slot] 93)).alloc (.cells #[.int .u64 rc.l,.int .u32 rc.e,.int .i64 rc.k,.int .u64 rc.v,.int .u64 rc.d,.string I,.string X] 97)) w.heap.size 93 #[.int .i64 seg,.int .i64 slot]:=(Tb.Blk.new w _ _).later (NewC.below1 _ _)
 have K2:Tb.Blk ((w.alloc (.cells #[.int .i64 seg,.int .i64 slot] 93)).alloc (.cells #[.int .u64 rc.l,.int .u32 rc.e,.int .i64 rc.k,.int .u64 rc.v,.int .u64 rc.d,.string I,.string X] 97)) (w.heap.size+1) 97 #[.int .u64 rc.l,.int .u32 rc.e,.int .i64 rc.k,.int .u64 rc.v,.int .u64 rc.d,.string I,.string X]:=Tb.Blk.at_ _ _ _ (by simp)
 have h2:=(h.alloc (.cells #[.int .i64 seg,.int .i64 slot] 93)).alloc (.cells #[.int .u64 rc.l,.int .u32 rc.e,.int .i64 rc.k,.int .u64 rc.v,.int .u64 rc.d,.string I,.string X] 97)
 clear h
 go_enter Tryz.func59,Tryz.ntmps59
 go_upto_region 1 with fail
 generalize ((w.alloc (.cells #[.int .i64 seg,.int .i64 slot] 93)).alloc (.cells #[.int .u64 rc.l,.int .u32 rc.e,.int .i64 rc.k,.int .u64 rc.v,.int .u64 rc.d,.string I,.string X] 97))=w1 at *
 have l0:w1.cell? ⟨w.heap.size,0,none⟩=some (.int .i64 seg):=K1.cell 0
 have l1:w1.cell? ⟨w.heap.size,1,none⟩=some (.int .i64 slot):=K1.cell 1
 have r0:w1.cell? ⟨w.heap.size+1,0,none⟩=some (.int .u64 rc.l):=K2.cell 0
 have r1:w1.cell? ⟨w.heap.size+1,1,none⟩=some (.int .u32 rc.e):=K2.cell 1
 have r2:w1.cell? ⟨w.heap.size+1,2,none⟩=some (.int .i64 rc.k):=K2.cell 2
 have r3:w1.cell? ⟨w.heap.size+1,3,none⟩=some (.int .u64 rc.v):=K2.cell 3
 have r4:w1.cell? ⟨w.heap.size+1,4,none⟩=some (.int .u64 rc.d):=K2.cell 4
 have r5:w1.cell? ⟨w.heap.size+1,5,none⟩=some (.string I):=K2.cell 5
 have r6:w1.cell? ⟨w.heap.size+1,6,none⟩=some (.string X):=K2.cell 6
 have a0:w1.cell? ⟨ba,0,none⟩=some (.slice F n p):=(loc_blk h2 ha).cell 0
 have HZS:(Value.agg #[.int .i64 0,.int .i64 0,.int .u64 0,.int .u32 0,.int .i64 0,.int .u64 0,.int .u64 0,.string ⟨#[]⟩,.string ⟨#[]⟩]).cells.size=9:=rfl
 have HLN:([.int .i64 seg,.int .i64 slot,.int .u64 rc.l,.int .u32 rc.e,.int .i64 rc.k,.int .u64 rc.v,.int .u64 rc.d,.string I,.string X]:List Value).length=9:=rfl
 have HCS:∀ u∈([.int .i64 seg,.int .i64 slot,.int .u64 rc.l,.int .u32 rc.e,.int .i64 rc.k,.int .u64 rc.v,.int .u64 rc.d,.string I,.string X]:List Value),u.oneCell' = true:=by intro u hu; simp only [List.mem_cons,List.not_mem_nil,or_false] at hu; rcases hu with rfl|rfl|rfl|rfl|rfl|rfl|rfl|rfl|rfl <;> rfl
 have HA:=Lib.hid ha
 have HR0:=Lib.hid hr
 clear K1 K2 ha
 go_wp2_with (refine Lg.wp_append_s (cs:=[.int .i64 seg,.int .i64 slot,.int .u64 rc.l,.int .u32 rc.e,.int .i64 rc.k,.int .u64 rc.v,.int .u64 rc.d,.string I,.string X]) pfound_infos HZS (by decide) (by decide) Tryz.underlying46 rfl (.tmp 5) (.tmp 9) rfl rfl rfl h2 ir hr hf HLN HCS ?_; intro v3 w15 h15; clear a0 l0 l1 r0 r1 r2 r3 r4 r5 r6 HZS HLN HCS hr h2; obtain ⟨A9,p9,rfl⟩:=Lg.rows_slice h15 (Lg.get_self HR0.out); have c13:w15.cell? ⟨ba,0,none⟩=some (.slice F n p):=(loc_blk h15 (Lg.get_set HA.out hne.symm)).cell 0; have f13:=(loc_blk h15 (Lg.get_set HA.out hne.symm)).frozen 0; have H15:=Lib.hid h15; clear h15)
 have S16:=loc_cell H15.out (Lg.get_set HA.out hne.symm) 0 (.slice A9 (n+1) p9)
 go_end0
 refine ⟨rfl,A9,p9,?_⟩
 rw [List.set_comm _ _ hne]
 exact S16
theorem pnext_any (S:ByteArray) (l e:Int) (w:World) (hs:S.size≤140737488355328):Calls Tryz.prog 116 #[.string S,.int .u64 l,.int .u32 e] w fun e' w'=>e' = .returned (.tuple #[.agg (nxC (nxR S l e)),.bool (nxR S l e).isSome])∧Below w.heap.size w w':=by
 have hcut:Rc.cutR S.data.toList=⟨(Rc.cutR S.data.toList).l,(Rc.cutR S.data.toList).e,(Rc.cutR S.data.toList).k,(Rc.cutR S.data.toList).v,(Rc.cutR S.data.toList).d,(⟨(Rc.cutR S.data.toList).i.toArray⟩:ByteArray).data.toList,(⟨(Rc.cutR S.data.toList).a.toArray⟩:ByteArray).data.toList⟩:=by simp
 cases h:Rc.isSec S.data.toList with
 | false =>
   have e0:nxR S l e=none:=by unfold nxR recOf; rw [h]; rfl
   rw [e0]
   exact Rc.next_none S l e w hs h
 | true =>
   have er:recOf S=some (Rc.cutR S.data.toList):=by unfold recOf; rw [if_pos h]
   by_cases hq:(Rc.cutR S.data.toList).l=l∧(Rc.cutR S.data.toList).e=e
   ·have e0:nxR S l e=some (Rc.cutR S.data.toList):=by unfold nxR; rw [er]; exact if_pos hq
    rw [e0]
    have:=Rc.next_yes S _ _ _ _ _ _ _ w hs hcut h
    show Calls _ _ _ _ fun e' w'=>e' = .returned (.tuple #[.agg (recC (Rc.cutR S.data.toList)),.bool true])∧Below w.heap.size w w'
    unfold recC
    rw [hq.1,hq.2] at this ⊢
    exact this
   ·have e0:nxR S l e=none:=by unfold nxR; rw [er]; exact if_neg hq
    rw [e0]
    exact Rc.next_not S _ _ _ _ _ _ _ l e w hs hcut h hq
theorem pdec_any (S:ByteArray) (w:World) (hs:S.size≤140737488355328):Calls Tryz.prog 113 #[.string S] w fun e' w'=>e' = .returned (.tuple #[.agg (nxC (recOf S)),.int .i64 (if (recOf S).isSome=true then 0 else 5)])∧Below w.heap.size w w':=by
 have hcut:Rc.cutR S.data.toList=⟨(Rc.cutR S.data.toList).l,(Rc.cutR S.data.toList).e,(Rc.cutR S.data.toList).k,(Rc.cutR S.data.toList).v,(Rc.cutR S.data.toList).d,(⟨(Rc.cutR S.data.toList).i.toArray⟩:ByteArray).data.toList,(⟨(Rc.cutR S.data.toList).a.toArray⟩:ByteArray).data.toList⟩:=by simp
 cases h:Rc.isSec S.data.toList with
 | false =>
   have er:recOf S=none:=by unfold recOf; rw [h]; rfl
   rw [er]
   exact Rc.decode_no S w hs h
 | true =>
   have er:recOf S=some (Rc.cutR S.data.toList):=by unfold recOf; rw [if_pos h]
   rw [er]
   exact Rc.decode_yes S _ _ _ _ _ _ _ w hs hcut h
end Go.Proofs.YtcnohlgigmmefaaGreat.Ro
