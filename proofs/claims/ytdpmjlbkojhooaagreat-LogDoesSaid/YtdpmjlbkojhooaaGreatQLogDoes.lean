/- For every number of sectors, every conf and every calls with a limit the statement LogDoes about seglog and the document's own log returns true, and changes nothing. Conditions: none. -/
import Derived.Test.YtdpmjlbkojhooaaGreatQLhQ
import Derived.Deep.DeepCutAuto
import Derived.Deep.LoopGhost
import Derived.Deep.RegionWith
import Derived.StillTailTactics
import Derived.WalkSmall
import Derived.IntWalk
import Derived.ProofKit
import Derived.OpenShut
import Derived.ShutString
import Derived.SizedLaws
namespace Go.Proofs.YtdpmjlbkojhooaaGreat.logDoes
open Go.ChangeShapes Go.WideShapes Go.ChangeAt Go.RowKit Go.Lib Go.MapKept
open Go.ChangeMaps (open_string shut_string)
set_option linter.unusedVariables false
theorem own:ownKnob Tryz.prog.godebug=none:=by kernel_rfl
theorem laid:laidOutB Tryz.prog=true:=by kernel_rfl
theorem walk (n sg sl:Int) (x:Nat) (rt:Int) (L:Option Addr) (N c:Nat) (lim:Int) (f:Nat→Lg.LOp) (w:World) (_:(Lit.int .i64 n).wf=true) (hx:x<18446744073709551616) (hlim:-9223372036854775808≤lim∧lim≤9223372036854775807) (hN:N≤maxLen) (hL:Lg.LopsIn w L N f) :
 Calls Tryz.prog 3 #[.int .i64 n,.agg #[.int .i64 sg,.int .i64 sl,.float .f64 x,.int .i64 rt],.agg #[.slice L N c,.int .i64 lim]] w fun e w'=>e=.returned (.bool true)∧Below w.heap.size w w' :=
 Lg.does_any Lg.prg Lg.fixed_any n sg sl rt x hx L N c lim hlim f w hN hL
set_option maxRecDepth 100000 in
theorem lifted (os:Os) (started:os.Started) (H:Type) (enc:TypeId × Value→H) :
 ReturnsInHanded {} Tryz.checked os 3 .any (Rows.logDoesSpec.pre6 enc Tryz.prog Tryz.f3 Rows.logDoesRow.domain false) (Rows.logDoesSpec.post enc Tryz.prog Tryz.f3 false true false false):=by
 refine returnsInHanded_of_change (C:=Tryz.checked) own started (by kernel_rfl) Tryz.func3
  (ChangeSpec.witness6 (enc:=enc) (C:=Tryz.checked) false ⟨#[],#[.int .i64 0,.agg #[.int .i64 0,.int .i64 0,.float .f64 0,.int .i64 0],.agg #[.slice none 0 0,.int .i64 0]],[]⟩ 8 (by kernel_rfl) (by kernel_rfl) (by kernel_rfl) (by kernel_rfl)) ?_
 intro W base args ds gs before hval0 hW hcnd _
 have hval:∀ (j:Nat) t v,Tryz.f3.params[j]? = some t→args[j]? = some v→Value.okWide Tryz.prog W .any base t v:=hval0
 have hW':=hW
 obtain ⟨p,q,hA0,hV,rfl,hfz,hnd⟩:=hW
 have hA:DataW.TrodAll enc Tryz.prog W 0 (fun _=>true) true Tryz.f3.params.toList args.toList ds p:=hA0
 rw [Tryz.params3] at hA hval
 obtain ⟨v0,vs0,d0,ds0,p0,q0,hargs,rfl,rfl,h0,r0⟩:=trodAll_cons hA
 obtain ⟨v1,vs1,d1,ds1,p1,q1,rfl,rfl,rfl,h1,r1⟩:=trodAll_cons r0
 obtain ⟨v2,vs2,d2,ds2,p2,q2,rfl,rfl,rfl,h2,r2⟩:=trodAll_cons r1
 obtain ⟨rfl,rfl,rfl⟩:=trodAll_nil r2
 obtain rfl:args=#[v0,v1,v2]:=by cases args; simp_all
 obtain ⟨rfl,rfl⟩:=trodVars_none hV
 obtain ⟨a0,rfl,rfl,rfl,w0⟩:=open_int Tryz.underlying3 (hval 0 3 v0 rfl rfl) h0
 obtain ⟨sg1,sl1,x1,rt1,rfl,hx1⟩:=Lg.open_conf (hval 1 24 v1 rfl rfl) h1
 obtain ⟨L2,N2,c2,lim2,f2,rfl,hlim2,hN2,hL2⟩:=Lg.open_calls (hval 2 27 v2 rfl rfl) h2
 clear hA0 hval0
 try simp only [List.append_nil] at hW'
 try simp only [List.nil_append] at hW'
 have hlt:=fun x hx=>hW'.lt x hx
 refine (walk a0 sg1 sl1 x1 rt1 L2 N2 c2 lim2 f2 W w0 hx1 hlim2 hN2 hL2).mono fun e W' ⟨he,hg⟩=>?_
 subst he
 refine ⟨_,rfl,post_mem hW' (fun _ _ _=>(trodAll_cons_mk (shut_bool Tryz.underlying4 _) trodAll_mk0)) (fun sp hsp=>?_) (fun _=>rfl) hg (ok_one (by kernel_rfl) rfl (okWide_bool_mk Tryz.underlying4 _))⟩
 have hall:=(trodAll_cons_mk (arg_same (sp:=sp) laid (by kernel_rfl) (of_decide_eq_true (by kernel_rfl)) h0 hg (by intro x hx; simp_all) hlt hsp) (trodAll_cons_mk (arg_same (sp:=sp) laid (by kernel_rfl) (of_decide_eq_true (by kernel_rfl)) h1 hg (by intro x hx; simp_all) hlt hsp) (trodAll_cons_mk (arg_same (sp:=sp) laid (by kernel_rfl) (of_decide_eq_true (by kernel_rfl)) h2 hg (by intro x hx; simp_all) hlt hsp) trodAll_mk0)))
 try simp only [List.append_nil] at hall
 try simp only [List.nil_append] at hall
 exact hall
theorem over:Rows.logDoesRow.holds Tryz.pinned (OpenSpec.ofChange Rows.logDoesSpec) :=
 OpenClaim.holds_of_wide 3 Tryz.f3 rfl rfl rfl rfl rfl rfl rfl ⟨rfl,rfl,rfl,rfl,rfl⟩ rfl rfl rfl rfl rfl (by kernel_rfl) Tryz.func3 (by kernel_rfl)
  (of_decide_eq_true (by kernel_rfl)) (by unfold Func.isWrapper; first|(rw [if_pos (by decide +kernel)]; kernel_rfl)|(rw [if_neg (by decide +kernel)]; exact ⟨rfl,rfl⟩))
  (fun os started H enc _=>lifted os started H enc)
theorem proved:Rows.LogDoesSaid:=over
#print axioms proved
end Go.Proofs.YtdpmjlbkojhooaaGreat.logDoes
