/- For all inputs the statement VictimOrder about victim returns true, and changes nothing. Conditions: none. -/
import Derived.Test.YtgepkomomjmmhaaViK
import Derived.Test.YtgepkomomjmmhaaViF
import Derived.Test.YtgepkomomjmmhaaClass
import Derived.ProofKit
import Derived.OpenShut
import Derived.ShutString
import Derived.SizedLaws
namespace Go.Proofs.Ytgepkomomjmmhaa.victimOrder
open Go.ChangeShapes Go.WideShapes Go.ChangeAt Go.RowKit Go.Lib Go.MapKept
open Go.ChangeMaps (open_string shut_string)
set_option linter.unusedVariables false
set_option linter.unusedSimpArgs false

theorem own : ownKnob Try.prog.godebug = none := by kernel_rfl
theorem laid : laidOutB Try.prog = true := by kernel_rfl

set_option maxRecDepth 100000
open Vi Sp
theorem tri (a b : Cd) : (better a b = true ∧ better b a = false) ∨ (better a b = false ∧ better b a = true) ∨ (better a b = false ∧ better b a = false) := by
  cases h : better a b
  · cases h2 : better b a
    · exact .inr (.inr ⟨rfl, rfl⟩)
    · exact .inr (.inl ⟨rfl, rfl⟩)
  · exact .inl ⟨rfl, better_not h⟩
/-- What the statement asks of the six answers. -/
def fits (ab ba bc cb ac ca : Bool) : Bool := !(ab && ba || ab && bc && !ac || cb && ba && !ca) && (ab || ba || bc || cb || (!ac && !ca))
theorem fits_is (a b c : Cd) : fits (better a b) (better b a) (better b c) (better c b) (better a c) (better c a) = true := by
  rcases tri a b with ⟨h1, h2⟩ | ⟨h1, h2⟩ | ⟨h1, h2⟩ <;> rcases tri b c with ⟨h3, h4⟩ | ⟨h3, h4⟩ | ⟨h3, h4⟩
  · rw [better_trans h1 h3, h1, h2, h3, h4]; cases better c a <;> rfl
  · rw [h1, h2, h3, h4]; cases better a c <;> cases better c a <;> rfl
  · rw [h1, h2, h3, h4]; cases better a c <;> cases better c a <;> rfl
  · rw [h1, h2, h3, h4]; cases better a c <;> cases better c a <;> rfl
  · rw [better_trans h4 h2, h1, h2, h3, h4]; cases better a c <;> rfl
  · rw [h1, h2, h3, h4]; cases better a c <;> cases better c a <;> rfl
  · rw [h1, h2, h3, h4]; cases better a c <;> cases better c a <;> rfl
  · rw [h1, h2, h3, h4]; cases better a c <;> cases better c a <;> rfl
  · rw [worse_trans h1 h3, worse_trans h4 h2, h1, h2, h3, h4]; rfl
set_option maxHeartbeats 32000000 in
theorem walk (P : Prg) (a b c : Cd) (w : World) (ha : CIn a) (hb : CIn b) (hc : CIn c) :
    Calls Try.prog 4 #[.agg (cdA5 a), .agg (cdA5 b), .agg (cdA5 c)] w fun e w' => e = .returned (.bool true) ∧ Below w.heap.size w w' := by
  have HFT := Lib.hid (fits_is a b c)
  have Pab : Hid (∀ X, Calls Try.prog 10 #[.agg (cdA5 a), .agg (cdA5 b)] X fun e w' => e = .returned (.bool (better a b)) ∧ Below X.heap.size X w') := Lib.hid (fun X => P.bt a b X ha hb)
  have Pac : Hid (∀ X, Calls Try.prog 10 #[.agg (cdA5 a), .agg (cdA5 c)] X fun e w' => e = .returned (.bool (better a c)) ∧ Below X.heap.size X w') := Lib.hid (fun X => P.bt a c X ha hc)
  have Pba : Hid (∀ X, Calls Try.prog 10 #[.agg (cdA5 b), .agg (cdA5 a)] X fun e w' => e = .returned (.bool (better b a)) ∧ Below X.heap.size X w') := Lib.hid (fun X => P.bt b a X hb ha)
  have Pbc : Hid (∀ X, Calls Try.prog 10 #[.agg (cdA5 b), .agg (cdA5 c)] X fun e w' => e = .returned (.bool (better b c)) ∧ Below X.heap.size X w') := Lib.hid (fun X => P.bt b c X hb hc)
  have Pca : Hid (∀ X, Calls Try.prog 10 #[.agg (cdA5 c), .agg (cdA5 a)] X fun e w' => e = .returned (.bool (better c a)) ∧ Below X.heap.size X w') := Lib.hid (fun X => P.bt c a X hc ha)
  have Pcb : Hid (∀ X, Calls Try.prog 10 #[.agg (cdA5 c), .agg (cdA5 b)] X fun e w' => e = .returned (.bool (better c b)) ∧ Below X.heap.size X w') := Lib.hid (fun X => P.bt c b X hc hb)
  have Paa : Hid (∀ X, Calls Try.prog 10 #[.agg (cdA5 a), .agg (cdA5 a)] X fun e w' => e = .returned (.bool false) ∧ Below X.heap.size X w') := Lib.hid (fun X => by rw [← better_self a]; exact P.bt a a X ha ha)
  have HFX := Lib.hid (fun X => fixed_any P X)
  clear P ha hb hc
  generalize better a b = vab at *
  generalize better b a = vba at *
  generalize better b c = vbc at *
  generalize better c b = vcb at *
  generalize better a c = vac at *
  generalize better c a = vca at *
  obtain ⟨W, hW⟩ : ∃ W, ((w.alloc (.cells (cdA5 a) 25)).alloc (.cells (cdA5 b) 25)).alloc (.cells (cdA5 c) 25) = W := ⟨_, rfl⟩
  have HB := Lib.hid (show Below w.heap.size w W by rw [← hW]; exact (((Below.refl _ _).alloc (Nat.le_refl _) _).alloc (by simp) _).alloc (by simp; omega) _)
  have BA : Hid (Sp.Blk W w.heap.size 25 (cdA5 a)) := Lib.hid (by rw [← hW]; exact ((Sp.Blk.new w 25 (cdA5 a)).later (below1 _ _)).later (below1 _ _))
  have BB : Hid (Sp.Blk W (w.heap.size + 1) 25 (cdA5 b)) := Lib.hid (by rw [← hW]; exact (Sp.Blk.at_ _ _ _ (by simp)).later (below1 _ _))
  have BC : Hid (Sp.Blk W (w.heap.size + 1 + 1) 25 (cdA5 c)) := Lib.hid (by rw [← hW]; exact Sp.Blk.at_ _ _ _ (by simp))
  have a0 := fun jj : In (fun X => Below W.heap.size W X) => (CC.blk (BA.out.later jj.h)).c0
  have a1 := fun jj : In (fun X => Below W.heap.size W X) => (CC.blk (BA.out.later jj.h)).c1
  have a2 := fun jj : In (fun X => Below W.heap.size W X) => (CC.blk (BA.out.later jj.h)).c2
  have a3 := fun jj : In (fun X => Below W.heap.size W X) => (CC.blk (BA.out.later jj.h)).c3
  have a4 := fun jj : In (fun X => Below W.heap.size W X) => (CC.blk (BA.out.later jj.h)).c4
  have b0 := fun jj : In (fun X => Below W.heap.size W X) => (CC.blk (BB.out.later jj.h)).c0
  have b1 := fun jj : In (fun X => Below W.heap.size W X) => (CC.blk (BB.out.later jj.h)).c1
  have b2 := fun jj : In (fun X => Below W.heap.size W X) => (CC.blk (BB.out.later jj.h)).c2
  have b3 := fun jj : In (fun X => Below W.heap.size W X) => (CC.blk (BB.out.later jj.h)).c3
  have b4 := fun jj : In (fun X => Below W.heap.size W X) => (CC.blk (BB.out.later jj.h)).c4
  have c0 := fun jj : In (fun X => Below W.heap.size W X) => (CC.blk (BC.out.later jj.h)).c0
  have c1 := fun jj : In (fun X => Below W.heap.size W X) => (CC.blk (BC.out.later jj.h)).c1
  have c2 := fun jj : In (fun X => Below W.heap.size W X) => (CC.blk (BC.out.later jj.h)).c2
  have c3 := fun jj : In (fun X => Below W.heap.size W X) => (CC.blk (BC.out.later jj.h)).c3
  have c4 := fun jj : In (fun X => Below W.heap.size W X) => (CC.blk (BC.out.later jj.h)).c4
  go_enter Try.func4, Try.ntmps4
  go_upto_region 1 with fail
  have I : Below W.heap.size W { W with drawn := W.drawn + 1 } := (Below.refl _ _).drew
  have hne : Nonempty (In (fun X => Below W.heap.size W X)) := ⟨⟨_, I⟩⟩
  refine region_class (fun X => Below W.heap.size W X) (by kernel_rfl) (by kernel_rfl) I ?_
  repeat (go_big_quiet_step (first
    | (go_at_call 10; with_reducible exact class_call _ (fun hi => (Pab.out _).mono fun _ _ ⟨he, hb⟩ => ⟨he, hi.trans (hb.mono hi.size)⟩))
    | (go_at_call 10; with_reducible exact class_call _ (fun hi => (Pba.out _).mono fun _ _ ⟨he, hb⟩ => ⟨he, hi.trans (hb.mono hi.size)⟩))
    | (go_at_call 10; with_reducible exact class_call _ (fun hi => (Pbc.out _).mono fun _ _ ⟨he, hb⟩ => ⟨he, hi.trans (hb.mono hi.size)⟩))
    | (go_at_call 10; with_reducible exact class_call _ (fun hi => (Pcb.out _).mono fun _ _ ⟨he, hb⟩ => ⟨he, hi.trans (hb.mono hi.size)⟩))
    | (go_at_call 10; with_reducible exact class_call _ (fun hi => (Pac.out _).mono fun _ _ ⟨he, hb⟩ => ⟨he, hi.trans (hb.mono hi.size)⟩))
    | (go_at_call 10; with_reducible exact class_call _ (fun hi => (Pca.out _).mono fun _ _ ⟨he, hb⟩ => ⟨he, hi.trans (hb.mono hi.size)⟩))))
  refine wpQuiet_nil ?_
  rintro _ ⟨jj, rfl⟩
  replace a0 := a0 jj
  replace a1 := a1 jj
  replace a2 := a2 jj
  replace a3 := a3 jj
  replace a4 := a4 jj
  have HX := Lib.hid jj.h
  clear b0 b1 b2 b3 b4 c0 c1 c2 c3 c4 I hne hW
  generalize jj.W = X at *
  clear jj Pab Pba Pbc Pcb Pac Pca BA BB BC
  have HFT2 := HFT.out
  clear HFT
  go_upto_region 2 with fail
  cases vab <;> cases vba <;> cases vbc <;> cases vcb <;> cases vac <;> cases vca <;> first
    | exact absurd HFT2 (by decide)
    | (clear HFT2
       go_wp2_with (first
         | (go_at_call 10; with_reducible refine (Paa.out _).mono ?_; rintro e5 w5 ⟨rfl, hb5⟩; have H5 := Lib.hid (HX.out.trans (hb5.mono HX.out.size)); clear hb5)
         | (go_at_call 19; refine (HFX.out _).mono ?_; rintro e7 w7 ⟨rfl, hb7⟩; have H7 := Lib.hid (H5.out.trans (hb7.mono H5.out.size)); clear hb7))
       go_ret
       exact ⟨rfl, HB.out.trans (H7.out.mono HB.out.size)⟩)

set_option maxRecDepth 100000 in
theorem lifted (P : Prg) (os : Os) (started : os.Started) (H : Type) (enc : TypeId × Value → H) :
    ReturnsInHanded {} Try.checked os 4 .any (Rows.victimOrderSpec.pre6 enc Try.prog Try.f4 Rows.victimOrderRow.domain false) (Rows.victimOrderSpec.post enc Try.prog Try.f4 false true false false) := by
  refine returnsInHanded_of_change (C := Try.checked) own started (by kernel_rfl) Try.func4
    (ChangeSpec.witness6 (enc := enc) (C := Try.checked) false ⟨#[], #[.agg #[.int .i64 0, .int .i64 0, .int .i64 0, .int .i64 0, .int .u64 0], .agg #[.int .i64 0, .int .i64 0, .int .i64 0, .int .i64 0, .int .u64 0], .agg #[.int .i64 0, .int .i64 0, .int .i64 0, .int .i64 0, .int .u64 0]], []⟩ 8 (by kernel_rfl) (by kernel_rfl) (by kernel_rfl) (by kernel_rfl)) ?_
  intro W base args ds gs before hval0 hW hcnd _
  have hval : ∀ (j : Nat) t v, Try.f4.params[j]? = some t → args[j]? = some v → Value.okWide Try.prog W .any base t v := hval0
  have hW' := hW
  obtain ⟨p, q, hA0, hV, rfl, hfz, hnd⟩ := hW
  have hA : DataW.TrodAll enc Try.prog W 0 (fun _ => true) true Try.f4.params.toList args.toList ds p := hA0
  rw [Try.params4] at hA hval
  obtain ⟨v0, vs0, d0, ds0, p0, q0, hargs, rfl, rfl, h0, r0⟩ := trodAll_cons hA
  obtain ⟨v1, vs1, d1, ds1, p1, q1, rfl, rfl, rfl, h1, r1⟩ := trodAll_cons r0
  obtain ⟨v2, vs2, d2, ds2, p2, q2, rfl, rfl, rfl, h2, r2⟩ := trodAll_cons r1
  obtain ⟨rfl, rfl, rfl⟩ := trodAll_nil r2
  obtain rfl : args = #[v0, v1, v2] := by cases args; simp_all
  obtain ⟨rfl, rfl⟩ := trodVars_none hV
  obtain ⟨x0, rfl, hx0⟩ := open_cand (hval 0 25 v0 rfl rfl) h0
  obtain ⟨x1, rfl, hx1⟩ := open_cand (hval 1 25 v1 rfl rfl) h1
  obtain ⟨x2, rfl, hx2⟩ := open_cand (hval 2 25 v2 rfl rfl) h2
  clear hA0 hval0
  try simp only [List.append_nil] at hW'
  try simp only [List.nil_append] at hW'
  have hlt := fun x hx => hW'.lt x hx
  refine (walk P x0 x1 x2 W hx0 hx1 hx2).mono fun e W' ⟨he, hg⟩ => ?_
  subst he
  refine ⟨_, rfl, post_mem hW' (fun _ _ _ => (trodAll_cons_mk (shut_bool Try.underlying4 _) trodAll_mk0)) (fun sp hsp => ?_) (fun _ => rfl) hg (ok_one (by kernel_rfl) rfl (okWide_bool_mk Try.underlying4 _))⟩
  have hall := (trodAll_cons_mk (arg_same (sp := sp) laid (by kernel_rfl) (of_decide_eq_true (by kernel_rfl)) h0 hg (by intro x hx; simp_all) hlt hsp) (trodAll_cons_mk (arg_same (sp := sp) laid (by kernel_rfl) (of_decide_eq_true (by kernel_rfl)) h1 hg (by intro x hx; simp_all) hlt hsp) (trodAll_cons_mk (arg_same (sp := sp) laid (by kernel_rfl) (of_decide_eq_true (by kernel_rfl)) h2 hg (by intro x hx; simp_all) hlt hsp) trodAll_mk0)))
  try simp only [List.append_nil] at hall
  try simp only [List.nil_append] at hall
  exact hall

theorem over (P : Prg) : Rows.victimOrderRow.holds Try.pinned (OpenSpec.ofChange Rows.victimOrderSpec) :=
  OpenClaim.holds_of_wide 4 Try.f4 rfl rfl rfl rfl rfl rfl rfl ⟨rfl, rfl, rfl, rfl, rfl⟩ rfl rfl rfl rfl rfl (by kernel_rfl) Try.func4 (by kernel_rfl)
    (of_decide_eq_true (by kernel_rfl)) (by unfold Func.isWrapper; first | (rw [if_pos (by decide +kernel)]; kernel_rfl) | (rw [if_neg (by decide +kernel)]; exact ⟨rfl, rfl⟩))
    (fun os started H enc _ => lifted P os started H enc)

end Go.Proofs.Ytgepkomomjmmhaa.victimOrder
