/- A part. -/
import Derived.Test.YtcnohlgigmmefaaGreatPRoT
import Derived.Test.YtcnohlgigmmefaaGreatPRoU
import Derived.Test.YtcnohlgigmmefaaGreatPRoW
import Derived.WalkMore
namespace Go.Proofs.YtcnohlgigmmefaaGreat.Ro
open Go.RowKit Go.Lib
open Tb (Tab TIn Sl okP csT lastN nth Fresh)
open Dk (St Only Grew)
open Lg (locI rowS loc_cell loc_whole loc_alloc loc_blk)
set_option linter.unusedVariables false
set_option maxRecDepth 100000
theorem arrF79 {cs:Array Value} (h:cs.size=79):∃ y:Nat→Value,(∀ i,cs.getD i undef=y i)∧cs=#[y 0,y 1,y 2,y 3,y 4,y 5,y 6,y 7,y 8,y 9,y 10,y 11,y 12,y 13,y 14,y 15,y 16,y 17,y 18,y 19,y 20,y 21,y 22,y 23,y 24,y 25,y 26,y 27,y 28,y 29,y 30,y 31,y 32,y 33,y 34,y 35,y 36,y 37,y 38,y 39,y 40,y 41,y 42,y 43,y 44,y 45,y 46,y 47,y 48,y 49,y 50,y 51,y 52,y 53,y 54,y 55,y 56,y 57,y 58,y 59,y 60,y 61,y 62,y 63,y 64,y 65,y 66,y 67,y 68,y 69,y 70,y 71,y 72,y 73,y 74,y 75,y 76,y 77,y 78]:=by
 refine ⟨fun i=>cs.getD i undef,fun _=>rfl,?_⟩
 have e:cs=((List.range 79).map fun i=>cs.getD i undef).toArray:=by
  apply Array.ext
  ·simp [h]
  ·intro i h1 h2
   simp [h1]
 exact e.trans rfl
theorem kept_of {ops:Array Oper} {dsts:List Nat} {listed:Array Bool} (h:ops.all (fun o=>match o.dst with|none=>true|some d=>dsts.contains d)=true) {d:Nat} (hd:dsts.contains d=false):∀ i o,ops[i]? = some o→listed.getD i false=true→o.dst≠some d:=by
 intro i o hi _ e
 rw [Array.all_eq_true_iff_forall_mem] at h
 have:=h o (Array.mem_of_getElem? hi)
 rw [e] at this
 simp only at this
 rw [hd] at this
 cases this
set_option maxRecDepth 100000 in
theorem frB {z0 z1 z2 z3 z4 z5 z6 z7 z8 z9 z10 z11 z12 z13 z14 z15 z16 z17 z18 z19 z20 z21 z22 z23 z24 z25 z26 z27 z28 z29 z30 z31 z32 z33 z34 z35 z36 z37 z38 z39 z40 z41 z42 z43 z44 z45 z46 z47 z48 z49 z50 z51 z52 z53 z54 z55 z56 z57 z58 z59 z60 z61 z62 z63 z64 z65 z66 z67 z68 z69 z70 z71 z72 z73 z74 z75 z76 z77 z78:Value} {ts us:Array Value} (hz:ts=#[z0,z1,z2,z3,z4,z5,z6,z7,z8,z9,z10,z11,z12,z13,z14,z15,z16,z17,z18,z19,z20,z21,z22,z23,z24,z25,z26,z27,z28,z29,z30,z31,z32,z33,z34,z35,z36,z37,z38,z39,z40,z41,z42,z43,z44,z45,z46,z47,z48,z49,z50,z51,z52,z53,z54,z55,z56,z57,z58,z59,z60,z61,z62,z63,z64,z65,z66,z67,z68,z69,z70,z71,z72,z73,z74,z75,z76,z77,z78]) (hs:us.size=ts.size) (hk:∀ d,[8,9,13,14,15,16,17,18,19,20,21,22,23,24,25,26].contains d=false→us.getD d undef=ts.getD d undef) :
 ∃ y:Nat→Value,(∀ i,us.getD i undef=y i)∧us=#[z0,z1,z2,z3,z4,z5,z6,z7,y 8,y 9,z10,z11,z12,y 13,y 14,y 15,y 16,y 17,y 18,y 19,y 20,y 21,y 22,y 23,y 24,y 25,y 26,z27,z28,z29,z30,z31,z32,z33,z34,z35,z36,z37,z38,z39,z40,z41,z42,z43,z44,z45,z46,z47,z48,z49,z50,z51,z52,z53,z54,z55,z56,z57,z58,z59,z60,z61,z62,z63,z64,z65,z66,z67,z68,z69,z70,z71,z72,z73,z74,z75,z76,z77,z78]:=by
 obtain ⟨y,hy,e⟩:=arrF79 (cs:=us) (by rw [hs,hz]; rfl)
 subst hz
 refine ⟨y,hy,e.trans ?_⟩
 have e0:y 0=z0:=(hy 0).symm.trans (hk 0 rfl)
 have e1:y 1=z1:=(hy 1).symm.trans (hk 1 rfl)
 have e2:y 2=z2:=(hy 2).symm.trans (hk 2 rfl)
 have e3:y 3=z3:=(hy 3).symm.trans (hk 3 rfl)
 have e4:y 4=z4:=(hy 4).symm.trans (hk 4 rfl)
 have e5:y 5=z5:=(hy 5).symm.trans (hk 5 rfl)
 have e6:y 6=z6:=(hy 6).symm.trans (hk 6 rfl)
 have e7:y 7=z7:=(hy 7).symm.trans (hk 7 rfl)
 have e10:y 10=z10:=(hy 10).symm.trans (hk 10 rfl)
 have e11:y 11=z11:=(hy 11).symm.trans (hk 11 rfl)
 have e12:y 12=z12:=(hy 12).symm.trans (hk 12 rfl)
 have e27:y 27=z27:=(hy 27).symm.trans (hk 27 rfl)
 have e28:y 28=z28:=(hy 28).symm.trans (hk 28 rfl)
 have e29:y 29=z29:=(hy 29).symm.trans (hk 29 rfl)
 have e30:y 30=z30:=(hy 30).symm.trans (hk 30 rfl)
 have e31:y 31=z31:=(hy 31).symm.trans (hk 31 rfl)
 have e32:y 32=z32:=(hy 32).symm.trans (hk 32 rfl)
 have e33:y 33=z33:=(hy 33).symm.trans (hk 33 rfl)
 have e34:y 34=z34:=(hy 34).symm.trans (hk 34 rfl)
 have e35:y 35=z35:=(hy 35).symm.trans (hk 35 rfl)
 have e36:y 36=z36:=(hy 36).symm.trans (hk 36 rfl)
 have e37:y 37=z37:=(hy 37).symm.trans (hk 37 rfl)
 have e38:y 38=z38:=(hy 38).symm.trans (hk 38 rfl)
 have e39:y 39=z39:=(hy 39).symm.trans (hk 39 rfl)
 have e40:y 40=z40:=(hy 40).symm.trans (hk 40 rfl)
 have e41:y 41=z41:=(hy 41).symm.trans (hk 41 rfl)
 have e42:y 42=z42:=(hy 42).symm.trans (hk 42 rfl)
 have e43:y 43=z43:=(hy 43).symm.trans (hk 43 rfl)
 have e44:y 44=z44:=(hy 44).symm.trans (hk 44 rfl)
 have e45:y 45=z45:=(hy 45).symm.trans (hk 45 rfl)
 have e46:y 46=z46:=(hy 46).symm.trans (hk 46 rfl)
 have e47:y 47=z47:=(hy 47).symm.trans (hk 47 rfl)
 have e48:y 48=z48:=(hy 48).symm.trans (hk 48 rfl)
 have e49:y 49=z49:=(hy 49).symm.trans (hk 49 rfl)
 have e50:y 50=z50:=(hy 50).symm.trans (hk 50 rfl)
 have e51:y 51=z51:=(hy 51).symm.trans (hk 51 rfl)
 have e52:y 52=z52:=(hy 52).symm.trans (hk 52 rfl)
 have e53:y 53=z53:=(hy 53).symm.trans (hk 53 rfl)
 have e54:y 54=z54:=(hy 54).symm.trans (hk 54 rfl)
 have e55:y 55=z55:=(hy 55).symm.trans (hk 55 rfl)
 have e56:y 56=z56:=(hy 56).symm.trans (hk 56 rfl)
 have e57:y 57=z57:=(hy 57).symm.trans (hk 57 rfl)
 have e58:y 58=z58:=(hy 58).symm.trans (hk 58 rfl)
 have e59:y 59=z59:=(hy 59).symm.trans (hk 59 rfl)
 have e60:y 60=z60:=(hy 60).symm.trans (hk 60 rfl)
 have e61:y 61=z61:=(hy 61).symm.trans (hk 61 rfl)
 have e62:y 62=z62:=(hy 62).symm.trans (hk 62 rfl)
 have e63:y 63=z63:=(hy 63).symm.trans (hk 63 rfl)
 have e64:y 64=z64:=(hy 64).symm.trans (hk 64 rfl)
 have e65:y 65=z65:=(hy 65).symm.trans (hk 65 rfl)
 have e66:y 66=z66:=(hy 66).symm.trans (hk 66 rfl)
 have e67:y 67=z67:=(hy 67).symm.trans (hk 67 rfl)
 have e68:y 68=z68:=(hy 68).symm.trans (hk 68 rfl)
 have e69:y 69=z69:=(hy 69).symm.trans (hk 69 rfl)
 have e70:y 70=z70:=(hy 70).symm.trans (hk 70 rfl)
 have e71:y 71=z71:=(hy 71).symm.trans (hk 71 rfl)
 have e72:y 72=z72:=(hy 72).symm.trans (hk 72 rfl)
 have e73:y 73=z73:=(hy 73).symm.trans (hk 73 rfl)
 have e74:y 74=z74:=(hy 74).symm.trans (hk 74 rfl)
 have e75:y 75=z75:=(hy 75).symm.trans (hk 75 rfl)
 have e76:y 76=z76:=(hy 76).symm.trans (hk 76 rfl)
 have e77:y 77=z77:=(hy 77).symm.trans (hk 77 rfl)
 have e78:y 78=z78:=(hy 78).symm.trans (hk 78 rfl)
 simp only [e0,e1,e2,e3,e4,e5,e6,e7,e10,e11,e12,e27,e28,e29,e30,e31,e32,e33,e34,e35,e36,e37,e38,e39,e40,e41,e42,e43,e44,e45,e46,e47,e48,e49,e50,e51,e52,e53,e54,e55,e56,e57,e58,e59,e60,e61,e62,e63,e64,e65,e66,e67,e68,e69,e70,e71,e72,e73,e74,e75,e76,e77,e78]
section
variable {ops:Array Oper} {rest:List Oper} {o:Oper} {a:Act} {w:World} {Q:Exit→Act→World→Prop} {g e l v:Int} {A:Option Addr} {m p:Nat} {B:Option Addr} {k q:Nat} {sg st:Int} {A2:Option Addr} {m2 p2:Nat} {B2:Option Addr} {k2 q2:Nat} {C2:Option Addr} {n2 r2:Nat} {ls vr:Int} {vF:Value}
theorem load_it (hgd:o.guard=none) (x:Operand) (ho:o.op=.load 45 x) (b:Nat) (hx:a.eval x=.pointer (some ⟨b,6,none⟩)) {t:TypeId} (hB:Tb.Blk w b t (csI g e l v A m p B k q sg st (.slice A2 m2 p2) (.slice B2 k2 q2) (.slice C2 n2 r2) ls vr vF))
 (h:wpList Tryz.prog ops Q rest (a.put o.dst (.agg #[.int .i64 sg,.int .i64 st,.slice A2 m2 p2,.slice B2 k2 q2,.slice C2 n2 r2])) w):wpList Tryz.prog ops Q (o :: rest) a w :=
 wpList_load_mid hgd _ x ho b 6 hx [.int .i64 sg,.int .i64 st,.slice A2 m2 p2,.slice B2 k2 q2,.slice C2 n2 r2] _ (fun j v hv=>by
  have hj:j<5:=(List.getElem?_eq_some_iff.1 hv).1
  rw [hB.cell]
  rcases (by omega:j=0∨j=1∨j=2∨j=3∨j=4) with rfl|rfl|rfl|rfl|rfl <;> exact hv) Tryz.underlying45 rfl info_tb h
theorem store_it (hgd:o.guard=none) (x y:Operand) (ho:o.op=.store 45 x y) (b:Nat) (hx:a.eval x=.pointer (some ⟨b,6,none⟩)) {sg' st' : Int} {A3:Option Addr} {m3 p3:Nat} {B3:Option Addr} {k3 q3:Nat} {C3:Option Addr} {n3 r3:Nat} (hy:a.eval y=.agg #[.int .i64 sg',.int .i64 st',.slice A3 m3 p3,.slice B3 k3 q3,.slice C3 n3 r3]) {t:TypeId} (hB:Tb.Blk w b t (csI g e l v A m p B k q sg st (.slice A2 m2 p2) (.slice B2 k2 q2) (.slice C2 n2 r2) ls vr vF))
 (h:wpList Tryz.prog ops Q rest (a.put o.dst undef) (w.setRow b (csI g e l v A m p B k q sg' st' (.slice A3 m3 p3) (.slice B3 k3 q3) (.slice C3 n3 r3) ls vr vF))):wpList Tryz.prog ops Q (o :: rest) a w:=by
 refine wpList_store_mid hgd _ x y ho b 6 #[.int .i64 sg',.int .i64 st',.slice A3 m3 p3,.slice B3 k3 q3,.slice C3 n3 r3] hx hy (fun j hj=>?_) info_tb (Tb.csT_one sg' st' A3 m3 p3 B3 k3 q3 C3 n3 r3) ?_
 ·have hj5:j<5:=hj
  rw [hB.cell,hB.frozen]
  rcases (by omega:j=0∨j=1∨j=2∨j=3∨j=4) with rfl|rfl|rfl|rfl|rfl <;> exact ⟨rfl,rfl⟩
 ·rw [set_cells 6 _ hB,if_neg (by simp)]
  exact h
end
theorem res_pi1 {fn:Func} {p' : Tmp} (h:fn.results=#[.cell p' 48]) (tmps:Array Value) (W:World) (b:Nat) {cs:Array Value} {t:TypeId} (hp:tmps.getD p' undef=.pointer (some ⟨b,0,none⟩)) (L:Tb.Blk W b t cs) (hs:cs.size=14):(results fn tmps).run Tryz.prog W=.ok (.agg cs) W :=
 results_cell_row h tmps W b t cs (0,0) _ hp L Tryz.underlying48 rfl (by rw [hs]; exact info_pi)
theorem loc_front1 {W w w' : World} {items:List Dk.Item} {b:Nat} {t:TypeId} {cs:Array Value} (h:Dk.Sep W w items) (hb:Below w.heap.size w w') (hB:Tb.Blk w' b t cs) (hn:w.heap.size≤b):Dk.Sep W w' (locI [(b,t,cs)] :: items) :=
 sep_front (Lg.loc_new h hb (fun x hx=>by
  rcases List.mem_cons.1 hx with rfl|hx
  ·exact hB
  ·cases hx) (fun x hx=>by
  rcases List.mem_cons.1 hx with rfl|hx
  ·exact hn
  ·cases hx))
def itsB (items:List Dk.Item) (ia ir it ba:Nat) (F:Option Addr) (p:Nat) (f:List Fd) (A2:Option Addr) (m2:Nat) (B2:Option Addr) (k2:Nat) (C2:Option Addr) (n2:Nat) (t:Tab):List Dk.Item:=(itsC items ia ir ba F p f).set it (tabI A2 m2 B2 k2 C2 n2 t.o t.l t.f)
section
variable {items:List Dk.Item} {ia ir it ba:Nat} {F F' : Option Addr} {p p' : Nat} {f f' : List Fd} {A2 A3:Option Addr} {m2 m3:Nat} {B2 B3:Option Addr} {k2 k3:Nat} {C2 C3:Option Addr} {n2 n3:Nat} {t t' : Tab} {x y z:Dk.Item}
theorem itb_a (ha:items[ia]? = some x) (hne:ia≠ir) (h1:it≠ia):(itsB items ia ir it ba F p f A2 m2 B2 k2 C2 n2 t)[ia]? = some (allI ba F f.length p):=Lg.get_set (its_a ha hne) h1
theorem itb_r (hr:items[ir]? = some y) (hne:ia≠ir) (h2:it≠ir):(itsB items ia ir it ba F p f A2 m2 B2 k2 C2 n2 t)[ir]? = some (fndI F p f):=Lg.get_set (its_r hr hne) h2
theorem itb_t (ht:items[it]? = some z) (h1:it≠ia) (h2:it≠ir):(itsB items ia ir it ba F p f A2 m2 B2 k2 C2 n2 t)[it]? = some (tabI A2 m2 B2 k2 C2 n2 t.o t.l t.f):=Lg.get_self (its_o ht h1 h2)
theorem itb_set (hne:ia≠ir) (h1:it≠ia) (h2:it≠ir):((itsB items ia ir it ba F p f A2 m2 B2 k2 C2 n2 t).set ia (allI ba F' f'.length p')).set ir (fndI F' p' f')=itsB items ia ir it ba F' p' f' A2 m2 B2 k2 C2 n2 t:=by
 unfold itsB
 rw [List.set_comm _ _ h1,List.set_comm _ _ h2,its_set hne]
theorem itb_tab:(itsB items ia ir it ba F p f A2 m2 B2 k2 C2 n2 t).set it (tabI A3 m3 B3 k3 C3 n3 t'.o t'.l t'.f)=itsB items ia ir it ba F p f A3 m3 B3 k3 C3 n3 t':=by
 unfold itsB
 rw [List.set_set]
end
set_option maxHeartbeats 32000000 in
theorem pbehind_any {W0 W w:World} {its0 items:List Dk.Item} {kk d ia ir it ba:Nat} {s:St} {x0 y0 z0:Dk.Item} (hD:Dk.Sep W0 W its0) (hk:its0[kk]? = some (Dk.diskI d s)) (hg:s.Good)
 (sg st:Int) (c:Cp.Chk) (m mE:Img) (A:Option Addr) (mA p:Nat) (B:Option Addr) (kB q:Nat) {A2:Option Addr} {m2:Nat} (p2:Nat) {B2:Option Addr} {k2:Nat} (q2:Nat) {C2:Option Addr} {n2:Nat} (r2:Nat) {F:Option Addr} {pf:Nat}
 (ha:items[ia]? = some x0) (hr:items[ir]? = some y0) (ht:items[it]? = some z0) (hne:ia≠ir) (h1:it≠ia) (h2:it≠ir)
 (h:Dk.Sep W w (itsB items ia ir it ba F pf m.f A2 m2 B2 k2 C2 n2 m.t)) (hF:Fine sg st c m) (hE:runI s.cur c.e (fuelI m) m=mE) (hfit:2+sg*(st+1)≤s.size) :
 Calls Tryz.prog 61 #[.pointer (some ⟨d,0,none⟩),.agg (csI c.g c.e c.l c.v A mA p B kB q sg st (.slice A2 m2 p2) (.slice B2 k2 q2) (.slice C2 n2 r2) m.ls m.v (.slice none 0 0)),.func (.func 59) #[] #[.pointer (some ⟨ba,0,none⟩)]] w fun e w' =>
  ∃ A2 m2 p2 B2 k2 q2 C2 n2 r2 F pf,e=.returned (.agg (csI c.g c.e c.l c.v A mA p B kB q sg st (.slice A2 m2 p2) (.slice B2 k2 q2) (.slice C2 n2 r2) mE.ls mE.v (.slice none 0 0)))∧Dk.Sep W w' (itsB items ia ir it ba F pf mE.f A2 m2 B2 k2 C2 n2 mE.t):=by
 have hvI:=Tryz.zeroValue48
 have hvL:=Tryz.zeroValue93
 have hvR:=Tryz.zeroValue97
 have S1:=loc_front (loc_front h 48 (csI c.g c.e c.l c.v A mA p B kB q sg st (.slice A2 m2 p2) (.slice B2 k2 q2) (.slice C2 n2 r2) m.ls m.v (.slice none 0 0))) 48 zeroI
 obtain ⟨b4,e4⟩:∃ z,w.heap.size=z:=⟨_,rfl⟩
 rw [show (w.alloc (.cells (csI c.g c.e c.l c.v A mA p B kB q sg st (.slice A2 m2 p2) (.slice B2 k2 q2) (.slice C2 n2 r2) m.ls m.v (.slice none 0 0)) 48)).heap.size=w.heap.size+1 by simp,e4] at S1
 have HD:=Lib.hid hD
 have HE:=Lib.hid hE
 have HF:=Lib.hid hF
 clear h hD hE hF
 go_enter Tryz.func61,Tryz.ntmps61
 go_upto_region 1 with fail
 change Code.wp _ _ _ _ ((w.alloc (.cells (csI c.g c.e c.l c.v A mA p B kB q sg st (.slice A2 m2 p2) (.slice B2 k2 q2) (.slice C2 n2 r2) m.ls m.v (.slice none 0 0)) 48)).alloc (.cells zeroI 48))
 have HS1:=Lib.hid S1
 clear e4 S1
 generalize (w.alloc (.cells (csI c.g c.e c.l c.v A mA p B kB q sg st (.slice A2 m2 p2) (.slice B2 k2 q2) (.slice C2 n2 r2) m.ls m.v (.slice none 0 0)) 48)).alloc (.cells zeroI 48)=w1 at *
 go_wp2_with fail
 go_step3
 go_wp2_with fail
 go_step3
 go_wp2_with fail
 go_loopg [] (fuelI m) (fun gk wr=>∃ (m1:Img) (A2:Option Addr) (m2 p2:Nat) (B2:Option Addr) (k2 q2:Nat) (C2:Option Addr) (n2 r2:Nat) (F:Option Addr) (pf:Nat),gk=fuelI m1∧Hid (Fine sg st c m1∧runI s.cur c.e (fuelI m1) m1=mE ∧
  Dk.Sep W wr (locI [(b4+1,48,zeroI)] :: locI [(b4,48,csI c.g c.e c.l c.v A mA p B kB q sg st (.slice A2 m2 p2) (.slice B2 k2 q2) (.slice C2 n2 r2) m1.ls m1.v (.slice none 0 0))] :: itsB items ia ir it ba F pf m1.f A2 m2 B2 k2 C2 n2 m1.t)))
 case atStart=>exact ⟨m,A2,m2,p2,B2,k2,q2,C2,n2,r2,F,pf,rfl,Lib.hid ⟨HF.out,HE.out,HS1.out⟩⟩
 case round =>
  obtain ⟨m1,A2,m2,p2,B2,k2,q2,C2,n2,r2,F,pf,hgk,HI⟩:=hrel
  have HG:=Lib.hid hgk
  clear hgk HS1 HF HE
  have Sx:=HI.out.2.2
  obtain ⟨seg,hseg⟩:∃ z,lastN m1.t.o=z:=⟨_,rfl⟩
  obtain ⟨slot,hslot⟩:∃ z,lastN m1.t.l=z:=⟨_,rfl⟩
  have HSG:=Lib.hid (And.intro hseg hslot)
  have TT:TIn wr A2 m2 B2 k2 C2 n2 m1.t.o m1.t.l m1.t.f:=tab_tin Sx (j:=it+2) (itb_t ht h1 h2)
  have HEN:=pend_any p2 q2 r2 TT HI.out.1.ok
  rw [HI.out.1.sg,HI.out.1.st,hseg,hslot] at HEN
  replace HEN:=Lib.hid HEN
  have K4:=loc_blk Sx (k:=1) rfl
  clear hseg hslot TT
  go_upto_region 1 with fail
  go_wp2_with (with_reducible refine load_it rfl (.tmp 10) rfl b4 rfl K4 ?_)
  refine HEN.out.mono ?_
  rintro e' w2 ⟨rfl,hb2⟩
  have S2:=Sx.later hb2
  have S3:=S2.alloc (.cells #[.int .i64 seg,.int .i64 slot] 93)
  have K7:=Tb.Blk.new w2 93 #[.int .i64 seg,.int .i64 slot]
  obtain ⟨b7,e7⟩:∃ z,w2.heap.size=z:=⟨_,rfl⟩
  rw [e7] at K7
  have HS3:=Lib.hid S3
  clear K4 HEN hb2 S2 S3 Sx
  go_upto_region 2 with fail
  change Code.wp _ _ _ _ (w2.alloc (.cells #[.int .i64 seg,.int .i64 slot] 93))
  clear e7
  generalize w2.alloc (.cells #[.int .i64 seg,.int .i64 slot] 93)=w3 at *
  have S3:=HS3.out
  have K4:=loc_blk S3 (k:=1) rfl
  have hbo:=Lg.open_bd HI.out.1.ok
  have hsz:=HI.out.1.ok.1
  have hsl:=HI.out.1.ok.2.1
  have hso:=HI.out.1.ok.2.2.2.1 _ (Tb.last_mem HI.out.1.ok.2.2.1)
  rw [HI.out.1.sg] at hsz hso
  rw [HI.out.1.st] at hsl
  rw [HSG.out.1] at hso
  have hsb:=hbo.2
  rw [HI.out.1.st,HSG.out.2] at hsb
  obtain ⟨S,hS⟩:∃ S,s.cur (Tb.sectorT st seg slot)=S:=⟨_,rfl⟩
  have hSz:S.size≤140737488355328:=by rw [← hS,Dk.cur_size hg]; omega
  obtain ⟨rr,hrr⟩:∃ z,nxR S m1.ls c.e=z:=⟨_,rfl⟩
  obtain ⟨nx,hnx⟩:∃ z,nxC rr=z:=⟨_,rfl⟩
  obtain ⟨bn,hbn⟩:∃ z,rr.isSome=z:=⟨_,rfl⟩
  have hn7:nx.size=7:=by rw [← hnx]; exact nxC_size _
  have hn1:nx.all (·.oneCell')=true:=by rw [← hnx]; exact nxC_one _
  have HQ1:Hid (∀ W',Below w3.heap.size w3 W'→Calls Tryz.prog 114 #[.pointer (some ⟨d,0,none⟩),.agg #[.int .i64 sg,.int .i64 st,.slice A2 m2 p2,.slice B2 k2 q2,.slice C2 n2 r2],.agg #[.int .i64 seg,.int .i64 slot]] W' fun e w'=>e=.returned (.string S)∧Below W'.heap.size W' w'):=Lib.hid (fun W' hb=>psec_any (HD.out.later ((S3.later hb).below)) hk sg st seg slot _ _ _ (has_num hsz hsl hfit hso hsb) S hS)
  have HQ2:Hid (∀ W',Calls Tryz.prog 116 #[.string S,.int .u64 m1.ls,.int .u32 c.e] W' fun e w'=>e=.returned (.tuple #[.agg nx,.bool bn])∧Below W'.heap.size W' w'):=Lib.hid (fun W'=>by rw [← hnx,← hbn,← hrr]; exact pnext_any S m1.ls c.e W' hSz)
  have HRR:=Lib.hid (And.intro hrr hnx)
  have HSS:=Lib.hid hS
  have HB:=Lib.hid (And.intro hsz (And.intro hsl (And.intro hso hsb)))
  clear hS hrr hnx hbn hbo hsz hsl hso hsb hSz HS3
  refine FreeC.wp_freeC (FreeD.wl [some (.pointer (some ⟨d,0,none⟩)),some (.pointer (some ⟨b4,6,none⟩)),some (.agg #[.int .i64 (sg),.int .i64 (st),.slice A2 m2 p2,.slice B2 k2 q2,.slice C2 n2 r2]),some (.agg #[.int .i64 (seg),.int .i64 (slot)]),some (.string S),some (.pointer (some ⟨b4,11,none⟩)),some (.int .u64 m1.ls),some (.pointer (some ⟨b4,0,none⟩)),some (.pointer (some ⟨b4,1,none⟩)),some (.int .u32 c.e),some (.tuple #[.agg nx,.bool bn]),some (.tuple #[.agg nx,.bool bn]),some (.agg nx),some (.bool bn),none,none,some (.bool bn)]) (NewV.C w3 97 14 15 8 nx) (by kernel_rfl) (by kernel_rfl) (NewV.C.start _) ?_ ?_
  ·refine ⟨?_,?_,?_,?_,?_,?_,?_,?_,?_,?_,?_,?_,?_,?_,?_,?_,?_,trivial⟩
   ·intro listed A0 W hA hno hr K' hK
    have hsl:=hA.size
    simp at hsl
    have e0:A0.tmps[0]?.getD undef=.pointer (some ⟨d,0,none⟩):=FreeD.slot_is ((hA.kept 0 (Free.not_dst (by kernel_rfl))).trans rfl)
    simp [go_sem,e0]
    exact hK _ _ (hA.c.step 0 14 _ (by omega) (by omega) (Below.refl _ _)) rfl (fun j u _ _ hu=>FreeD.wl_any hu)
   ·intro listed A0 W hA hno hr K' hK
    have hsl:=hA.size
    simp at hsl
    have e4:A0.tmps[4]?.getD undef=.pointer (some ⟨b4,0,none⟩):=FreeD.slot_is ((hA.kept 4 (Free.not_dst (by kernel_rfl))).trans rfl)
    simp [go_sem,e4]
    exact hK _ _ (hA.c.step 1 15 _ (by omega) (by omega) (Below.refl _ _)) rfl (fun j u _ _ hu=>FreeD.wl_any hu)
   ·intro listed A0 W hA hno hr K' hK
    have hsl:=hA.size
    simp at hsl
    have e15:A0.tmps[15]?.getD undef=.pointer (some ⟨b4,6,none⟩):=FreeD.slot_is (hA.val 1 _ rfl (hr ⟨1,.data⟩ (by simp) rfl))
    have f0:W.cell? ⟨b4,6,none⟩=some (.int .i64 (sg)):=(K4.later hA.c.b).cell 6
    have f1:W.cell? ⟨b4,7,none⟩=some (.int .i64 (st)):=(K4.later hA.c.b).cell 7
    have f2:W.cell? ⟨b4,8,none⟩=some (.slice A2 m2 p2):=(K4.later hA.c.b).cell 8
    have f3:W.cell? ⟨b4,9,none⟩=some (.slice B2 k2 q2):=(K4.later hA.c.b).cell 9
    have f4:W.cell? ⟨b4,10,none⟩=some (.slice C2 n2 r2):=(K4.later hA.c.b).cell 10
    simp [go_sem,e15,f0,f1,f2,f3,f4]
    exact hK _ _ (hA.c.step 2 16 _ (by omega) (by omega) (Below.refl _ _)) rfl (fun j u _ _ hu=>FreeD.wl_any hu)
   ·intro listed A0 W hA hno hr K' hK
    have hsl:=hA.size
    simp at hsl
    have e7:A0.tmps[7]?.getD undef=.pointer (some ⟨b7,0,none⟩):=FreeD.slot_is ((hA.kept 7 (Free.not_dst (by kernel_rfl))).trans rfl)
    have f0:W.cell? ⟨b7,0,none⟩=some (.int .i64 (seg)):=(K7.later hA.c.b).cell 0
    have f1:W.cell? ⟨b7,1,none⟩=some (.int .i64 (slot)):=(K7.later hA.c.b).cell 1
    simp [go_sem,e7,f0,f1]
    exact hK _ _ (hA.c.step 3 17 _ (by omega) (by omega) (Below.refl _ _)) rfl (fun j u _ _ hu=>FreeD.wl_any hu)
   ·intro listed A0 W hA hno hr K' hK
    have hsl:=hA.size
    simp at hsl
    have e14:A0.tmps[14]?.getD undef=.pointer (some ⟨d,0,none⟩):=FreeD.slot_is (hA.val 0 _ rfl (hr ⟨0,.data⟩ (by simp) rfl))
    have e16:A0.tmps[16]?.getD undef=.agg #[.int .i64 (sg),.int .i64 (st),.slice A2 m2 p2,.slice B2 k2 q2,.slice C2 n2 r2]:=FreeD.slot_is (hA.val 2 _ rfl (hr ⟨2,.data⟩ (by simp) rfl))
    have e17:A0.tmps[17]?.getD undef=.agg #[.int .i64 (seg),.int .i64 (slot)]:=FreeD.slot_is (hA.val 3 _ rfl (hr ⟨3,.data⟩ (by simp) rfl))
    simp [go_sem,e14,e16,e17]
    refine (HQ1.out W hA.c.b).mono ?_
    rintro e' w' ⟨rfl,hb⟩
    exact hK _ _ (hA.c.step 4 18 _ (by omega) (by omega) hb) rfl (fun j u _ _ hu=>FreeD.wl_any hu)
   ·intro listed A0 W hA hno hr K' hK
    have hsl:=hA.size
    simp at hsl
    have e4:A0.tmps[4]?.getD undef=.pointer (some ⟨b4,0,none⟩):=FreeD.slot_is ((hA.kept 4 (Free.not_dst (by kernel_rfl))).trans rfl)
    simp [go_sem,e4]
    exact hK _ _ (hA.c.step 5 19 _ (by omega) (by omega) (Below.refl _ _)) rfl (fun j u _ _ hu=>FreeD.wl_any hu)
   ·intro listed A0 W hA hno hr K' hK
    have hsl:=hA.size
    simp at hsl
    have e19:A0.tmps[19]?.getD undef=.pointer (some ⟨b4,11,none⟩):=FreeD.slot_is (hA.val 5 _ rfl (hr ⟨5,.data⟩ (by simp) rfl))
    have f0:W.cell? ⟨b4,11,none⟩=some (.int .u64 m1.ls):=(K4.later hA.c.b).cell 11
    simp [go_sem,e19,f0]
    exact hK _ _ (hA.c.step 6 20 _ (by omega) (by omega) (Below.refl _ _)) rfl (fun j u _ _ hu=>FreeD.wl_any hu)
   ·intro listed A0 W hA hno hr K' hK
    have hsl:=hA.size
    simp at hsl
    have e4:A0.tmps[4]?.getD undef=.pointer (some ⟨b4,0,none⟩):=FreeD.slot_is ((hA.kept 4 (Free.not_dst (by kernel_rfl))).trans rfl)
    simp [go_sem,e4]
    exact hK _ _ (hA.c.step 7 21 _ (by omega) (by omega) (Below.refl _ _)) rfl (fun j u _ _ hu=>FreeD.wl_any hu)
   ·intro listed A0 W hA hno hr K' hK
    have hsl:=hA.size
    simp at hsl
    have e21:A0.tmps[21]?.getD undef=.pointer (some ⟨b4,0,none⟩):=FreeD.slot_is (hA.val 7 _ rfl (hr ⟨7,.data⟩ (by simp) rfl))
    simp [go_sem,e21]
    exact hK _ _ (hA.c.step 8 22 _ (by omega) (by omega) (Below.refl _ _)) rfl (fun j u _ _ hu=>FreeD.wl_any hu)
   ·intro listed A0 W hA hno hr K' hK
    have hsl:=hA.size
    simp at hsl
    have e22:A0.tmps[22]?.getD undef=.pointer (some ⟨b4,1,none⟩):=FreeD.slot_is (hA.val 8 _ rfl (hr ⟨8,.data⟩ (by simp) rfl))
    have f0:W.cell? ⟨b4,1,none⟩=some (.int .u32 c.e):=(K4.later hA.c.b).cell 1
    simp [go_sem,e22,f0]
    exact hK _ _ (hA.c.step 9 23 _ (by omega) (by omega) (Below.refl _ _)) rfl (fun j u _ _ hu=>FreeD.wl_any hu)
   ·intro listed A0 W hA hno hr K' hK
    have hsl:=hA.size
    simp at hsl
    have e18:A0.tmps[18]?.getD undef=.string S:=FreeD.slot_is (hA.val 4 _ rfl (hr ⟨4,.data⟩ (by simp) rfl))
    have e20:A0.tmps[20]?.getD undef=.int .u64 m1.ls:=FreeD.slot_is (hA.val 6 _ rfl (hr ⟨6,.data⟩ (by simp) rfl))
    have e23:A0.tmps[23]?.getD undef=.int .u32 c.e:=FreeD.slot_is (hA.val 9 _ rfl (hr ⟨9,.data⟩ (by simp) rfl))
    simp [go_sem,e18,e20,e23]
    refine (HQ2.out W).mono ?_
    rintro e' w' ⟨rfl,hb⟩
    exact hK _ _ (hA.c.step 10 24 _ (by omega) (by omega) hb) rfl (fun j u _ _ hu=>FreeD.wl_any hu)
   ·intro listed A0 W hA hno hr K' hK
    have hsl:=hA.size
    simp at hsl
    have e24:A0.tmps[24]?.getD undef=.tuple #[.agg nx,.bool bn]:=FreeD.slot_is (hA.val 10 _ rfl (hr ⟨10,.data⟩ (by simp) rfl))
    simp [go_sem,e24]
    exact hK _ _ (hA.c.step 11 13 _ (by omega) (by omega) (Below.refl _ _)) rfl (fun j u _ _ hu=>FreeD.wl_any hu)
   ·intro listed A0 W hA hno hr K' hK
    have hsl:=hA.size
    simp at hsl
    have e13:A0.tmps[13]?.getD undef=.tuple #[.agg nx,.bool bn]:=FreeD.slot_is (hA.val 11 _ rfl (hr ⟨11,.data⟩ (by simp) rfl))
    simp [go_sem,e13]
    exact hK _ _ (hA.c.step 12 25 _ (by omega) (by omega) (Below.refl _ _)) rfl (fun j u _ _ hu=>FreeD.wl_any hu)
   ·intro listed A0 W hA hno hr K' hK
    have hsl:=hA.size
    simp at hsl
    have e13:A0.tmps[13]?.getD undef=.tuple #[.agg nx,.bool bn]:=FreeD.slot_is (hA.val 11 _ rfl (hr ⟨11,.data⟩ (by simp) rfl))
    simp [go_sem,e13]
    exact hK _ _ (hA.c.step 13 26 _ (by omega) (by omega) (Below.refl _ _)) rfl (fun j u _ _ hu=>FreeD.wl_any hu)
   ·intro listed A0 W hA hno hr K' hK
    have hsl:=hA.size
    simp at hsl
    have hts:A0.tmps.size=79:=hA.slots.trans rfl
    simp [go_sem,hvR]
    exact hK _ _ (hA.c.alloc (by omega) (by omega) hno (by omega) _ hn7.symm) trivial (fun j u _ _ hu=>FreeD.wl_any hu)
   ·intro listed A0 W hA hno hr K' hK
    have hsl:=hA.size
    simp at hsl
    have e25:A0.tmps[25]?.getD undef=.agg nx:=FreeD.slot_is (hA.val 12 _ rfl (hr ⟨12,.data⟩ (by simp) rfl))
    obtain ⟨b,vs,e6,hbb,hvs,hB6,_⟩:=hA.c.da (hr ⟨14,.data⟩ (by simp) rfl)
    refine wp_store_row _ (.tmp 8) (.tmp 25) rfl b nx e6 (by simpa [Act.eval] using e25) _ _ hB6 (by rw [hn7]; exact info_prr) (by rw [hvs]) hn1 ?_
    exact hK undef _ (hA.c.store (by omega) (hr ⟨14,.data⟩ (by simp) rfl) e6 hbb hB6) trivial (fun j u _ _ hu=>FreeD.wl_any hu)
   ·intro listed A0 W hA hno hr K' hK
    have hsl:=hA.size
    simp at hsl
    have e26:A0.tmps[26]?.getD undef=.bool bn:=FreeD.slot_is (hA.val 13 _ rfl (hr ⟨13,.data⟩ (by simp) rfl))
    simp [go_sem,e26]
    exact hK _ _ (hA.c.step 16 9 _ (by omega) (by omega) (Below.refl _ _)) rfl (fun j u _ _ hu=>FreeD.wl_any hu)
  ·intro A0 w4 hA
   obtain ⟨b8,vs,s8,hb8,_,K8,hvs⟩:=hA.c.da rfl
   obtain rfl:=hvs rfl
   have hb:=hA.c.b
   obtain ⟨y,hy,ee⟩:=frB rfl hA.slots (fun d hd=>hA.kept d (kept_of (dsts:=[8,9,13,14,15,16,17,18,19,20,21,22,23,24,25,26]) (by kernel_rfl) hd))
   have hde:=hA.defers
   have t8:=(hy 8).symm.trans s8
   rw [t8] at ee
   clear hA hvs s8 hy t8
   obtain ⟨tm,de⟩:=A0
   simp only at ee hde
   subst ee hde
   have S4:=loc_front1 S3 hb K8 hb8
   replace K7:=K7.later hb
   have l0:w4.cell? ⟨b7,0,none⟩=some (.int .i64 seg):=K7.cell 0
   have l1:w4.cell? ⟨b7,1,none⟩=some (.int .i64 slot):=K7.cell 1
   have HST:Hid (stepI s.cur c.e m1=nextI m1 rr):=Lib.hid (by
    rw [step_next]
    unfold place
    rw [HI.out.1.st,HSG.out.1,HSG.out.2,HSS.out,HRR.out.1])
   have K4:=loc_blk S4 (k:=2) rfl
   have K6:=loc_blk S4 (k:=1) rfl
   have HS4:=Lib.hid S4
   have hres:=HI.out.1
   clear hb K7 K8 S3 S4 HQ1 HQ2 hb8
   have STOP:Hid (stepI s.cur c.e m1=none→m1=mE):=Lib.hid (fun hs=>by
    have:=HI.out.2.1
    rw [run_stop hs] at this
    exact this)
   cases rr with
   | none =>
     obtain rfl:Lg.zero7=vs:=HRR.out.2
     have kk2:w4.cell? ⟨b8,2,none⟩=some (.int .i64 0):=(loc_blk HS4.out (k:=0) rfl).cell 2
     have HEND:=Lib.hid (fun cs=>Lg.sep_tail (Lg.sep_tail (Lg.sep_tail (loc_whole HS4.out (k:=1) rfl cs))))
     have KI:=loc_blk HS4.out (k:=2) rfl
     have KJ:=loc_blk HS4.out (k:=1) rfl
     obtain rfl:m1=mE:=STOP.out HST.out
     clear STOP HST
     go_wp2_with (first
      | (with_reducible refine load_pi rfl (.tmp 4) rfl b4 rfl KI rfl ?_)
      | (with_reducible refine store_pi rfl (.tmp 6) (.tmp 78) rfl (b4+1) rfl rfl KJ rfl rfl (csI_one ..) ?_))
     try rw [Exit.noGoto_ret]
     refine bodyPost_ret (res_pi1 rfl _ _ (b4+1) rfl (KJ.row _) rfl) rfl ⟨A2,m2,p2,B2,k2,q2,C2,n2,r2,F,pf,rfl,HEND.out _⟩
   | some r =>
     obtain rfl:recC r=vs:=HRR.out.2
     have hbd:=rec_bd (nxR_some HRR.out.1).1
     have kk2:w4.cell? ⟨b8,2,none⟩=some (.int .i64 r.k):=(loc_blk HS4.out (k:=0) rfl).cell 2
     have KR:=loc_blk HS4.out (k:=0) rfl
     have ETA:=Lib.hid (tab_eta HI.out.1.sg HI.out.1.st)
     obtain ⟨u,hu⟩:∃ z,up m1.ls=z:=⟨_,rfl⟩
     have wu:IntKind.u64.wrap (m1.ls+1)=u:=by rw [← hu]; exact up_wrap HI.out.1.ls
     have HU:=Lib.hid hu
     clear hu
     by_cases hk3:r.k=3
     ·rw [hk3] at kk2
      have HL:=pleads_any p2 q2 r2 (tab_tin HS4.out (j:=it+3) (itb_t ht h1 h2)) HI.out.1.ok r.l r.e r.k r.v r.d ⟨r.i.toArray⟩ ⟨r.a.toArray⟩
      rw [HI.out.1.sg,HI.out.1.st] at HL
      replace HL:=Lib.hid HL
      go_wp2_with (first
       | (with_reducible refine load_prr rfl (.tmp 8) rfl b8 rfl KR rfl ?_)
       | (with_reducible refine load_it rfl (.tmp 62) rfl b4 rfl K4 ?_))
      refine HL.out.mono ?_
      rintro e' w5 ⟨rfl,hb⟩
      have S5:=HS4.out.later hb
      have K5:=loc_blk S5 (k:=2) rfl
      clear HL hb K4 K6 KR kk2
      cases hlb:leadB m1.t r.d with
      | false =>
        have hnone:stepI s.cur c.e m1=none:=by
         rw [HST.out]
         unfold nextI
         simp only
         rw [if_neg (fun h=>h hk3)]
         unfold leadB at hlb
         split at hlb
         ·rename_i hfr
          rw [hfr]
         ·rename_i f0 l hfr
          rw [hfr]
          simp only
          rw [if_neg (by simpa using hlb)]
        clear hlb K5
        have HEND:=Lib.hid (fun cs=>Lg.sep_tail (Lg.sep_tail (Lg.sep_tail (loc_whole S5 (k:=1) rfl cs))))
        have KI:=loc_blk S5 (k:=2) rfl
        have KJ:=loc_blk S5 (k:=1) rfl
        obtain rfl:m1=mE:=STOP.out hnone
        clear STOP HST
        go_wp2_with (first
         | (with_reducible refine load_pi rfl (.tmp 4) rfl b4 rfl KI rfl ?_)
         | (with_reducible refine store_pi rfl (.tmp 6) (.tmp 78) rfl (b4+1) rfl rfl KJ rfl rfl (csI_one ..) ?_))
        try rw [Exit.noGoto_ret]
        refine bodyPost_ret (res_pi1 rfl _ _ (b4+1) rfl (KJ.row _) rfl) rfl ⟨A2,m2,p2,B2,k2,q2,C2,n2,r2,F,pf,rfl,HEND.out _⟩
      | true =>
        obtain ⟨l,hfr⟩:∃ l,Tb.freeT m1.t=r.d :: l:=by
         unfold leadB at hlb
         split at hlb
         ·cases hlb
         ·rename_i f0 l hfr
          have:r.d=f0:=by simpa using hlb
          exact ⟨l,by rw [hfr,this]⟩
        have hsome:stepI s.cur c.e m1=some ⟨m1.c,Tb.openedT m1.t r.d u,u,m1.v,m1.f⟩:=by
         rw [HST.out]
         unfold nextI
         simp only
         rw [if_neg (fun h=>h hk3),hfr]
         simp only
         rw [if_pos trivial,HU.out]
        have hroll:Tb.rollT ⟨sg,st,m1.t.o,m1.t.l,m1.t.f⟩ u=some (Tb.openedT m1.t r.d u):=by
         rw [ETA.out]
         unfold Tb.rollT
         rw [hfr]
        have HSM:=Lib.hid hsome
        have HRL:=Lib.hid hroll
        clear hlb hfr hsome hroll
        have c11:w5.cell? ⟨b4,11,none⟩=some (.int .u64 m1.ls):=K5.cell 11
        have f11:=K5.frozen 11
        go_upto_region 14 with fail
        have S6:=loc_cell S5 (k:=2) rfl 11 (.int .u64 u)
        have S6:Dk.Sep W (w5.setCell ⟨b4,11,none⟩ (.int .u64 u)) (locI [(b8,97,recC r)] :: locI [(b4+1,48,zeroI)] :: locI [(b4,48,csI c.g c.e c.l c.v A mA p B kB q sg st (.slice A2 m2 p2) (.slice B2 k2 q2) (.slice C2 n2 r2) u m1.v (.slice none 0 0))] :: itsB items ia ir it ba F pf m1.f A2 m2 B2 k2 C2 n2 m1.t):=S6
        clear c11 f11 K5 S5
        generalize w5.setCell ⟨b4,11,none⟩ (.int .u64 u)=w6 at *
        have K6:=loc_blk S6 (k:=2) rfl
        have c11:w6.cell? ⟨b4,11,none⟩=some (.int .u64 u):=K6.cell 11
        have HRC:=Tb.roll_any sg st A2 m2 p2 B2 k2 q2 C2 n2 r2 m1.t.o m1.t.l m1.t.f u w6 (tab_tin S6 (j:=it+3) (itb_t ht h1 h2)) (by rw [ETA.out]; exact HI.out.1.ok)
        rw [HRL.out] at HRC
        replace HRC:=Lib.hid HRC
        have HS6:=Lib.hid S6
        clear S6
        go_wp2_with (with_reducible refine load_it rfl (.tmp 70) rfl b4 rfl K6 ?_)
        refine HRC.out.mono ?_
        rintro e' w7 ⟨A3,m3,p3,B3,k3,q3,C3,n3,r3,rfl,T3,_,hfr,hb7⟩
        have S7:=tab_put HS6.out (j:=it+3) (itb_t ht h1 h2) T3 (fresh_ons hfr) hb7
        have S7:Dk.Sep W w7 (locI [(b8,97,recC r)] :: locI [(b4+1,48,zeroI)] :: locI [(b4,48,csI c.g c.e c.l c.v A mA p B kB q sg st (.slice A2 m2 p2) (.slice B2 k2 q2) (.slice C2 n2 r2) u m1.v (.slice none 0 0))] :: (itsB items ia ir it ba F pf m1.f A2 m2 B2 k2 C2 n2 m1.t).set it (tabI A3 m3 B3 k3 C3 n3 (Tb.openedT m1.t r.d u).o (Tb.openedT m1.t r.d u).l (Tb.openedT m1.t r.d u).f)):=S7
        rw [itb_tab] at S7
        have esg:(Tb.tabOf (some (Tb.openedT m1.t r.d u))).sg=sg:=HI.out.1.sg
        have est:(Tb.tabOf (some (Tb.openedT m1.t r.d u))).st=st:=HI.out.1.st
        rw [esg,est]
        have K7:=loc_blk S7 (k:=2) rfl
        have HS7:=Lib.hid S7
        clear S7 HRC T3 hfr hb7 K6 c11 HS6 esg est
        go_wp2_with (with_reducible refine store_it rfl (.tmp 77) (.tmp 75) rfl b4 rfl rfl K7 ?_)
        have S8:Hid (Dk.Sep W (w7.setRow b4 (csI c.g c.e c.l c.v A mA p B kB q sg st (.slice A3 m3 p3) (.slice B3 k3 q3) (.slice C3 n3 r3) u m1.v (.slice none 0 0))) (locI [(b4+1,48,zeroI)] :: locI [(b4,48,(csI c.g c.e c.l c.v A mA p B kB q sg st (.slice A3 m3 p3) (.slice B3 k3 q3) (.slice C3 n3 r3) u m1.v (.slice none 0 0)))] :: itsB items ia ir it ba F pf m1.f A3 m3 B3 k3 C3 n3 (Tb.openedT m1.t r.d u))):=Lib.hid (Lg.sep_tail (loc_whole HS7.out (k:=2) rfl _))
        have HNX:=Lib.hid (And.intro (HI.out.1.step HSM.out) (And.intro ((run_step HI.out.1.ok HSM.out).symm.trans HI.out.2.1) (step_ok HI.out.1.ok HSM.out).2.1))
        go_roundg (fuelI ⟨m1.c,Tb.openedT m1.t r.d u,u,m1.v,m1.f⟩)
        case measure=>have:=HG.out; have:=HNX.out.2.2; omega
        case rel=>exact ⟨⟨m1.c,Tb.openedT m1.t r.d u,u,m1.v,m1.f⟩,A3,m3,p3,B3,k3,q3,C3,n3,r3,F,pf,rfl,Lib.hid ⟨HNX.out.1,HNX.out.2.1,S8.out⟩⟩
     ·have hk12:r.k=1∨r.k=2:=by omega
      by_cases hfull:slot=st
      ·have hnone:stepI s.cur c.e m1=none:=by
        rw [HST.out]
        unfold nextI
        simp only
        rw [if_pos hk3,HI.out.1.st,HSG.out.2,if_neg (by omega)]
       have c7:w4.cell? ⟨b4,7,none⟩=some (.int .i64 slot):=by rw [hfull]; exact K4.cell 7
       have HNO:=Lib.hid hnone
       clear hnone K6
       rcases hk12 with hk|hk
       all_goals
        rw [hk] at kk2
        have HEND:=Lib.hid (fun cs=>Lg.sep_tail (Lg.sep_tail (Lg.sep_tail (loc_whole HS4.out (k:=1) rfl cs))))
        have KI:=loc_blk HS4.out (k:=2) rfl
        have KJ:=loc_blk HS4.out (k:=1) rfl
        obtain rfl:m1=mE:=STOP.out HNO.out
        clear STOP HST
        go_wp2_with (first
         | (with_reducible refine load_pi rfl (.tmp 4) rfl b4 rfl KI rfl ?_)
         | (with_reducible refine store_pi rfl (.tmp 6) (.tmp 78) rfl (b4+1) rfl rfl KJ rfl rfl (csI_one ..) ?_))
        try rw [Exit.noGoto_ret]
        refine bodyPost_ret (res_pi1 rfl _ _ (b4+1) rfl (KJ.row _) rfl) rfl ⟨A2,m2,p2,B2,k2,q2,C2,n2,r2,F,pf,rfl,HEND.out _⟩
      ·obtain ⟨vv,hvv⟩:∃ z,max m1.v r.v=z:=⟨_,rfl⟩
       have HVV:=Lib.hid hvv
       have hsome:stepI s.cur c.e m1=some ⟨m1.c,Tb.countedT m1.t,u,vv,m1.f++[((seg,slot),r)]⟩:=by
        rw [HST.out]
        unfold nextI
        simp only
        rw [if_pos hk3,HI.out.1.st,HSG.out.2,HSG.out.1,if_pos (by have:=HB.out; omega),HU.out,hvv]
       have HSM:=Lib.hid hsome
       have HCN:Hid (Tb.countT ⟨sg,st,m1.t.o,m1.t.l,m1.t.f⟩=some (Tb.countedT m1.t)):=Lib.hid (by
        rw [ETA.out]
        exact Lg.count_yes (by rw [HI.out.1.st,HSG.out.2]; exact hfull))
       have c7:w4.cell? ⟨b4,7,none⟩=some (.int .i64 st):=K4.cell 7
       have HFD:=Lib.hid (found_any HS4.out (ia:=ia+3) (ir:=ir+3) (itb_a ha hne h1) (itb_r hr hne h2) (by omega) HI.out.1.few seg slot r)
       clear hsome hvv
       rcases hk12 with hk|hk
       all_goals
        rw [hk] at kk2
        go_wp2_with (with_reducible refine load_prr rfl (.tmp 8) rfl b8 rfl KR rfl ?_)
        refine HFD.out.mono ?_
        rintro e' w5 ⟨rfl,F2,pf2,hS⟩
        have S5:Dk.Sep W w5 (locI [(b8,97,recC r)] :: locI [(b4+1,48,zeroI)] :: locI [(b4,48,csI c.g c.e c.l c.v A mA p B kB q sg st (.slice A2 m2 p2) (.slice B2 k2 q2) (.slice C2 n2 r2) m1.ls m1.v (.slice none 0 0))] :: ((itsB items ia ir it ba F pf m1.f A2 m2 B2 k2 C2 n2 m1.t).set ia (allI ba F2 (m1.f++[((seg,slot),r)]).length pf2)).set ir (fndI F2 pf2 (m1.f++[((seg,slot),r)]))):=hS
        rw [itb_set hne h1 h2] at S5
        have HRC:=Tb.count_any sg st A2 m2 p2 B2 k2 q2 C2 n2 r2 m1.t.o m1.t.l m1.t.f w5 (tab_tin S5 (j:=it+3) (itb_t ht h1 h2)) (by rw [ETA.out]; exact HI.out.1.ok)
        rw [HCN.out] at HRC
        replace HRC:=Lib.hid HRC
        have K5:=loc_blk S5 (k:=2) rfl
        have HS5:=Lib.hid S5
        clear hS S5 l0 l1 kk2 K4 K6 KR
        go_wp2_with (with_reducible refine load_it rfl (.tmp 45) rfl b4 rfl K5 ?_)
        refine HRC.out.mono ?_
        rintro e' w6 ⟨A3,m3,p3,B3,k3,q3,C3,n3,r3,rfl,T3,_,hfr,hb7⟩
        have S6:=tab_put HS5.out (j:=it+3) (itb_t ht h1 h2) T3 (fresh_ons hfr) hb7
        have S6:Dk.Sep W w6 (locI [(b8,97,recC r)] :: locI [(b4+1,48,zeroI)] :: locI [(b4,48,csI c.g c.e c.l c.v A mA p B kB q sg st (.slice A2 m2 p2) (.slice B2 k2 q2) (.slice C2 n2 r2) m1.ls m1.v (.slice none 0 0))] :: (itsB items ia ir it ba F2 pf2 (m1.f++[((seg,slot),r)]) A2 m2 B2 k2 C2 n2 m1.t).set it (tabI A3 m3 B3 k3 C3 n3 (Tb.countedT m1.t).o (Tb.countedT m1.t).l (Tb.countedT m1.t).f)):=S6
        rw [itb_tab] at S6
        have esg:(Tb.tabOf (some (Tb.countedT m1.t))).sg=sg:=HI.out.1.sg
        have est:(Tb.tabOf (some (Tb.countedT m1.t))).st=st:=HI.out.1.st
        rw [esg,est]
        have K6:=loc_blk S6 (k:=2) rfl
        have HS6:=Lib.hid S6
        clear S6 HRC T3 hfr hb7 HS5 esg est K5
        go_upto_region 10 with (with_reducible refine store_it rfl (.tmp 50) (.tmp 48) rfl b4 rfl rfl K6 ?_)
        have S7:Dk.Sep W (w6.setRow b4 (csI c.g c.e c.l c.v A mA p B kB q sg st (.slice A3 m3 p3) (.slice B3 k3 q3) (.slice C3 n3 r3) m1.ls m1.v (.slice none 0 0))) (locI [(b8,97,recC r)] :: locI [(b4+1,48,zeroI)] :: locI [(b4,48,(csI c.g c.e c.l c.v A mA p B kB q sg st (.slice A3 m3 p3) (.slice B3 k3 q3) (.slice C3 n3 r3) m1.ls m1.v (.slice none 0 0)))] :: itsB items ia ir it ba F2 pf2 (m1.f++[((seg,slot),r)]) A3 m3 B3 k3 C3 n3 (Tb.countedT m1.t)):=loc_whole HS6.out (k:=2) rfl _
        clear K6 HS6
        generalize w6.setRow b4 (csI c.g c.e c.l c.v A mA p B kB q sg st (.slice A3 m3 p3) (.slice B3 k3 q3) (.slice C3 n3 r3) m1.ls m1.v (.slice none 0 0))=w7 at *
        have c12:w7.cell? ⟨b4,12,none⟩=some (.int .u64 m1.v):=(loc_blk S7 (k:=2) rfl).cell 12
        have f12:=(loc_blk S7 (k:=2) rfl).frozen 12
        have cr3:w7.cell? ⟨b8,3,none⟩=some (.int .u64 r.v):=(loc_blk S7 (k:=0) rfl).cell 3
        have HS7:=Lib.hid S7
        clear S7
        go_upto_region 11 with fail
        rw [HVV.out]
        have S8:Dk.Sep W (w7.setCell ⟨b4,12,none⟩ (.int .u64 vv)) (locI [(b8,97,recC r)] :: locI [(b4+1,48,zeroI)] :: locI [(b4,48,(csI c.g c.e c.l c.v A mA p B kB q sg st (.slice A3 m3 p3) (.slice B3 k3 q3) (.slice C3 n3 r3) m1.ls vv (.slice none 0 0)))] :: itsB items ia ir it ba F2 pf2 (m1.f++[((seg,slot),r)]) A3 m3 B3 k3 C3 n3 (Tb.countedT m1.t)):=loc_cell HS7.out (k:=2) rfl 12 (.int .u64 vv)
        clear c12 f12 cr3 HS7
        generalize w7.setCell ⟨b4,12,none⟩ (.int .u64 vv)=w8 at *
        have c11:w8.cell? ⟨b4,11,none⟩=some (.int .u64 m1.ls):=(loc_blk S8 (k:=2) rfl).cell 11
        have f11:=(loc_blk S8 (k:=2) rfl).frozen 11
        have S9:Dk.Sep W (w8.setCell ⟨b4,11,none⟩ (.int .u64 u)) (locI [(b8,97,recC r)] :: locI [(b4+1,48,zeroI)] :: locI [(b4,48,(csI c.g c.e c.l c.v A mA p B kB q sg st (.slice A3 m3 p3) (.slice B3 k3 q3) (.slice C3 n3 r3) u vv (.slice none 0 0)))] :: itsB items ia ir it ba F2 pf2 (m1.f++[((seg,slot),r)]) A3 m3 B3 k3 C3 n3 (Tb.countedT m1.t)):=loc_cell S8 (k:=2) rfl 11 (.int .u64 u)
        have HS9:=Lib.hid (Lg.sep_tail S9)
        have HNX:=Lib.hid (And.intro (HI.out.1.step HSM.out) (And.intro ((run_step HI.out.1.ok HSM.out).symm.trans HI.out.2.1) (step_ok HI.out.1.ok HSM.out).2.1))
        clear S8 S9
        go_wp2_with fail
        go_roundg (fuelI ⟨m1.c,Tb.countedT m1.t,u,vv,m1.f++[((seg,slot),r)]⟩)
        case measure=>have:=HG.out; have:=HNX.out.2.2; omega
        case rel=>exact ⟨⟨m1.c,Tb.countedT m1.t,u,vv,m1.f++[((seg,slot),r)]⟩,A3,m3,p3,B3,k3,q3,C3,n3,r3,F2,pf2,rfl,Lib.hid ⟨HNX.out.1,HNX.out.2.1,HS9.out⟩⟩
end Go.Proofs.YtcnohlgigmmefaaGreat.Ro
