/- A disk that was made behind a world W: the calls' contracts over it, and that the fixed calls of the statements about package disk return true. -/
import Derived.Test.YtoblkjahohlflaaDiskG
namespace Go.Proofs.Ytoblkjahohlflaa
open Go.RowKit Go.MapKept Go.Lib
set_option linter.unusedVariables false

/-- A disk of state s, all of whose blocks are newer than W; what W had is as it was. -/
def Own (W w : World) (d : Nat) (s : St) : Prop := ∃ F, DiskAt w d F s ∧ (∀ b, F b → W.heap.size ≤ b) ∧ Below W.heap.size W w

section
variable {W w w' : World} {d : Nat} {s : St}
theorem Own.below (h : Own W w d s) : Below W.heap.size W w := let ⟨_, _, _, hb⟩ := h; hb
theorem Own.later (h : Own W w d s) (hb : Below w.heap.size w w') : Own W w' d s :=
  let ⟨F, hd, hF, hW⟩ := h; ⟨F, hd.later hb, hF, hW.trans (hb.mono hW.size)⟩
theorem Own.alloc (h : Own W w d s) (o : Obj) : Own W (w.alloc o) d s := h.later ((Below.refl _ _).alloc (Nat.le_refl _) o)
theorem Own.drew (h : Own W w d s) : Own W w.drew d s := h.later (Below.refl _ _).drew
theorem own_step {F F' : Nat → Prop} {s' : St} (hF : ∀ b, F b → W.heap.size ≤ b) (hW : Below W.heap.size W w) (D : DiskAt w' d F' s') (hG : Grew w F F') (hO : Only F w w') : Own W w' d s' :=
  ⟨F', D, fun b hb => (hG b hb).elim (hF b) (fun e => Nat.le_trans hW.size e), hW.trans (hO.below hW.size hF)⟩
theorem Own.good (h : Own W w d s) : s.Good := let ⟨_, hd, _, _⟩ := h; hd.good

theorem new_own (W : World) (n : Int) (h1 : 1 ≤ n) (h2 : n ≤ 4096) (hW : Below W.heap.size W w) :
    Calls Try.prog 4 #[.int .i64 n] w fun e w' => ∃ d, e = .returned (.tuple #[.pointer (some ⟨d, 0, none⟩), .int .i64 0]) ∧ Own W w' d (St.new n) :=
  (new_yes n h1 h2).mono fun e w' ⟨d, F, he, hD, hF, hb⟩ => ⟨d, he, F, hD, fun b hb' => Nat.le_trans hW.size (hF b hb'), hW.trans (hb.mono hW.size)⟩
theorem write_own (h : Own W w d s) (i : Int) (x : ByteArray) (hi : s.has i) (hx : x.size = 128) (hd : ¬ s.dead) (hpl : s.pend.length < 1048576) :
    Calls Try.prog 14 #[.pointer (some ⟨d, 0, none⟩), .int .i64 i, .string x] w fun e w' => e = .returned (.int .i64 0) ∧ Own W w' d (s.write i x) := by
  obtain ⟨F, D, hF, hW⟩ := h
  exact (write_yes D i x hi hx hd hpl).mono fun e w' ⟨he, ⟨F', D', hG⟩, hO⟩ => ⟨he, own_step hF hW D' hG hO⟩
theorem write_arg_own (h : Own W w d s) (i : Int) (x : ByteArray) (hi : ¬ s.has i) :
    Calls Try.prog 14 #[.pointer (some ⟨d, 0, none⟩), .int .i64 i, .string x] w fun e w' => e = .returned (.int .i64 1) ∧ Own W w' d s := by
  have ⟨F, D, _⟩ := h
  exact (write_arg D i x hi).mono fun e w' ⟨he, hw⟩ => ⟨he, hw ▸ h⟩
theorem write_form_own (h : Own W w d s) (i : Int) (x : ByteArray) (hi : s.has i) (hx : x.size ≠ 128) :
    Calls Try.prog 14 #[.pointer (some ⟨d, 0, none⟩), .int .i64 i, .string x] w fun e w' => e = .returned (.int .i64 5) ∧ Own W w' d s := by
  have ⟨F, D, _⟩ := h
  exact (write_form D i x hi hx).mono fun e w' ⟨he, hw⟩ => ⟨he, hw ▸ h⟩
theorem write_dead_own (h : Own W w d s) (i : Int) (x : ByteArray) (hi : s.has i) (hx : x.size = 128) (hd : s.dead) :
    Calls Try.prog 14 #[.pointer (some ⟨d, 0, none⟩), .int .i64 i, .string x] w fun e w' => e = .returned (.int .i64 9) ∧ Own W w' d s := by
  have ⟨F, D, _⟩ := h
  exact (write_dead D i x hi hx hd).mono fun e w' ⟨he, hw⟩ => ⟨he, hw ▸ h⟩
theorem flush_own (h : Own W w d s) (hd : ¬ s.dead) (hpl : s.pend.length < 1048576) :
    Calls Try.prog 16 #[.pointer (some ⟨d, 0, none⟩)] w fun e w' => e = .returned (.int .i64 0) ∧ Own W w' d s.flush := by
  obtain ⟨F, D, hF, hW⟩ := h
  exact (flush_yes D hd hpl).mono fun e w' ⟨he, ⟨F', D', hG⟩, hO⟩ => ⟨he, own_step hF hW D' hG hO⟩
theorem flush_dead_own (h : Own W w d s) (hd : s.dead) :
    Calls Try.prog 16 #[.pointer (some ⟨d, 0, none⟩)] w fun e w' => e = .returned (.int .i64 9) ∧ Own W w' d s := by
  have ⟨F, D, _⟩ := h
  exact (flush_dead D hd).mono fun e w' ⟨he, hw⟩ => ⟨he, hw ▸ h⟩
theorem limit_own (h : Own W w d s) (n : Int) (h1 : -9223372036854775808 ≤ n) (h2 : n ≤ 9223372036854775807) :
    Calls Try.prog 19 #[.pointer (some ⟨d, 0, none⟩), .int .i64 n] w fun e w' => e = .returned (.tuple #[]) ∧ Own W w' d (s.limit n) := by
  obtain ⟨F, D, hF, hW⟩ := h
  exact (limit_any D n h1 h2).mono fun e w' ⟨he, D', hO⟩ => ⟨he, own_step hF hW D' (Grew.refl _ _) hO⟩
theorem crash_own (h : Own W w d s) (A : Option Addr) (n c : Nat) (hn : n ≤ maxLen) (keep : Nat → Bool) (torn pos : Int) (hk : ∀ F : Nat → Prop, DiskAt w d F s → (∀ b, F b → W.heap.size ≤ b) → KeepIs w F A n keep) (hpl : s.pend.length < 1048576) :
    Calls Try.prog 11 #[.pointer (some ⟨d, 0, none⟩), .slice A n c, .int .i64 torn, .int .i64 pos] w fun e w' => e = .returned (.tuple #[]) ∧ Own W w' d (s.crash keep torn (clampN pos)) := by
  obtain ⟨F, D, hF, hW⟩ := h
  exact (crash_any D A n c hn keep torn pos (hk F D hF) hpl).mono fun e w' ⟨he, ⟨F', D', hG⟩, hO⟩ => ⟨he, own_step hF hW D' hG hO⟩
theorem read_own (h : Own W w d s) (i : Int) (hi : s.has i) (x : ByteArray) (hx : s.cur i = x) :
    Calls Try.prog 17 #[.pointer (some ⟨d, 0, none⟩), .int .i64 i] w fun e w' => e = .returned (.tuple #[.string x, .int .i64 0]) ∧ Own W w' d s := by
  subst hx
  have ⟨F, D, _⟩ := h
  exact (read_yes D i hi).mono fun e w' ⟨he, hb⟩ => ⟨he, h.later hb⟩
theorem read_no_own (h : Own W w d s) (i : Int) (hi : ¬ s.has i) :
    Calls Try.prog 17 #[.pointer (some ⟨d, 0, none⟩), .int .i64 i] w fun e w' => e = .returned (.tuple #[.string ByteArray.empty, .int .i64 1]) ∧ Own W w' d s := by
  have ⟨F, D, _⟩ := h
  exact (read_no D i hi).mono fun e w' ⟨he, hw⟩ => ⟨he, hw ▸ h⟩
theorem pending_own (h : Own W w d s) (n : Int) (hn : (s.pend.length : Int) = n) :
    Calls Try.prog 18 #[.pointer (some ⟨d, 0, none⟩)] w fun e w' => e = .returned (.int .i64 n) ∧ Own W w' d s := by
  subst hn
  have ⟨F, D, _⟩ := h
  exact (pending_any D).mono fun e w' ⟨he, hw⟩ => ⟨he, hw ▸ h⟩
theorem len_own (h : Own W w d s) (n : Int) (hn : s.size = n) :
    Calls Try.prog 20 #[.pointer (some ⟨d, 0, none⟩)] w fun e w' => e = .returned (.int .i64 n) ∧ Own W w' d s := by
  subst hn
  have ⟨F, D, _⟩ := h
  exact (len_any D).mono fun e w' ⟨he, hw⟩ => ⟨he, hw ▸ h⟩
end
theorem full_is (s x : ByteArray) (w : World) (hs : s.size ≤ maxLen) (hx : fullS s = x) : Calls Try.prog 15 #[.string s] w fun e w' => e = .returned (.string x) ∧ w = w' := by
  subst hx; exact full_any s w hs

theorem hasC {s : St} {i : Int} (n : Int) (h : s.size = n) (h0 : 0 ≤ i) (h1 : i < n) : s.has i := ⟨h0, by rw [h]; exact h1⟩
theorem hasN {s : St} {i : Int} (n : Int) (h : s.size = n) (h1 : i < 0 ∨ n ≤ i) : ¬ s.has i := fun ⟨h0, h2⟩ => by rw [h] at h2; omega
theorem lenC {s : St} (n : Nat) (h : s.pend.length = n) (h1 : n < 1048576) : s.pend.length < 1048576 := by rw [h]; exact h1
theorem notDead {s : St} (h : s.set = false) : ¬ s.dead := fun ⟨h1, _⟩ => by rw [h] at h1; cases h1

/-- A crash whose list of bools was just made. -/
theorem crash_lit {W w : World} {d : Nat} {s : St} (h : Own W w d s) (ks : List Bool) (n : Nat) (hn : ks.length = n) (hn2 : n ≤ 1048576) (t : TypeId) (cs : Array Value) (hcs : cs = (ks.map Value.bool).toArray) (torn pos : Int) (hpl : s.pend.length < 1048576) :
    Calls Try.prog 11 #[.pointer (some ⟨d, 0, none⟩), .slice (some ⟨w.heap.size, 0, none⟩) n n, .int .i64 torn, .int .i64 pos] (w.alloc (.cells cs t)) fun e w' => e = .returned (.tuple #[]) ∧ Own W w' d (s.crash (fun j => ks.getD j false) torn (clampN pos)) := by
  obtain ⟨F, D, hF, hW⟩ := h
  have hk : KeepIs (w.alloc (.cells cs t)) F (some ⟨w.heap.size, 0, none⟩) n (fun j => ks.getD j false) := by
    refine ⟨fun _ => ⟨w.heap.size, 0, rfl, fun hf => by have := D.lt _ hf; omega, fun j hj => ?_⟩, fun j hj => ?_⟩
    · rw [(Blk.new w t cs).cell, hcs, Nat.zero_add]
      simp [List.getElem?_eq_getElem (show j < ks.length by omega)]
    · simp [List.getD, List.getElem?_eq_none (show ks.length ≤ j by omega)]
  have hW2 : Below W.heap.size W (w.alloc (.cells cs t)) := hW.alloc hW.size _
  refine (crash_any (D.alloc _) _ n n (by unfold maxLen; omega) _ torn pos hk hpl).mono fun e w' ⟨he, ⟨F', D', hG⟩, hO⟩ => ⟨he, own_step hF hW2 D' hG hO⟩

/-! ### The states of the fixed calls -/
theorem fx_a : mix 3 (fullS ⟨#[98]⟩) (fullS ⟨#[97]⟩) = ⟨#[98, 98, 98]⟩ ++ (fullS ⟨#[97]⟩).extract 3 128 := by decide +kernel
def sx1 (A : ByteArray) : St := ((St.new 2).write 0 A).flush
def sx2 (A B C : ByteArray) : St := ((sx1 A).write 0 B).write 1 C
def sx3 (A B C : ByteArray) : St := (((sx2 A B C).limit 0)).crash (fun j => [false, true].getD j false) 0 (clampN 3)

theorem sx2_cur (A B C : ByteArray) (hA : A.size = 128) : (sx2 A B C).cur 0 = B := rfl
theorem sx3_cur0 (A B C : ByteArray) (hA : A.size = 128) (hB : B.size = 128) : (sx3 A B C).cur 0 = mix 3 B A := by
  show mix 3 B (mix 128 A zeroS) = _
  rw [mix_all A zeroS hA zeroS_size]
theorem sx3_cur1 (A B C : ByteArray) (hC : C.size = 128) : (sx3 A B C).cur 1 = C := by
  show mix 128 C zeroS = _
  rw [mix_all C zeroS hC zeroS_size]

set_option maxRecDepth 100000 in
set_option maxHeartbeats 2000000 in
theorem fixed_any (w : World) : Calls Try.prog 6 #[] w fun e w' => e = .returned (.bool true) ∧ Below w.heap.size w w' := by
  obtain ⟨A, hA⟩ : ∃ x, fullS ⟨#[97]⟩ = x := ⟨_, rfl⟩
  obtain ⟨B, hB⟩ : ∃ x, fullS ⟨#[98]⟩ = x := ⟨_, rfl⟩
  obtain ⟨C, hC⟩ : ∃ x, fullS ⟨#[99]⟩ = x := ⟨_, rfl⟩
  obtain ⟨X, hX⟩ : ∃ x, fullS ⟨#[120]⟩ = x := ⟨_, rfl⟩
  obtain ⟨E, hE⟩ : ∃ x, fullS ⟨#[100]⟩ = x := ⟨_, rfl⟩
  obtain ⟨G, hG⟩ : ∃ x, fullS ⟨#[101]⟩ = x := ⟨_, rfl⟩
  have hm := fx_a
  rw [hA, hB] at hm
  have HM := Lib.hid hm
  have HA := Lib.hid hA
  have HB := Lib.hid hB
  have HC := Lib.hid hC
  have HX := Lib.hid hX
  have HE := Lib.hid hE
  have HG := Lib.hid hG
  have ZA := Lib.hid (show A.size = 128 by rw [← hA]; exact fullS_size _)
  have ZB := Lib.hid (show B.size = 128 by rw [← hB]; exact fullS_size _)
  have ZC := Lib.hid (show C.size = 128 by rw [← hC]; exact fullS_size _)
  have ZE := Lib.hid (show E.size = 128 by rw [← hE]; exact fullS_size _)
  have ZG := Lib.hid (show G.size = 128 by rw [← hG]; exact fullS_size _)
  have za : A.size = 128 := ZA.out
  clear hm hA hB hC hX hE hG
  go_enter Try.func6, Try.ntmps6
  go_wp2_with fail
  refine (new_own w 2 (by omega) (by omega) (Below.refl _ _)).mono ?_
  rintro e w1 ⟨d, rfl, h1⟩
  go_wp2_with fail
  refine (new_no 0 (by omega)).mono ?_
  rintro e w0 ⟨rfl, rfl⟩
  go_wp2_with fail
  refine (full_is ⟨#[97]⟩ A _ (by decide) HA.out).mono ?_
  rintro e w0 ⟨rfl, rfl⟩
  go_wp2_with fail
  refine (write_own h1 0 A (hasC 2 rfl (by omega) (by omega)) ZA.out (notDead rfl) (lenC 0 rfl (by decide))).mono ?_
  rintro e w2 ⟨rfl, h2⟩
  go_wp2_with fail
  refine (flush_own h2 (notDead rfl) (lenC 1 rfl (by decide))).mono ?_
  rintro e w3 ⟨rfl, h3⟩
  go_wp2_with fail
  refine (full_is ⟨#[98]⟩ B _ (by decide) HB.out).mono ?_
  rintro e w0 ⟨rfl, rfl⟩
  go_wp2_with fail
  refine (write_own h3 0 B (hasC 2 rfl (by omega) (by omega)) ZB.out (notDead rfl) (lenC 0 rfl (by decide))).mono ?_
  rintro e w4 ⟨rfl, h4⟩
  go_wp2_with fail
  refine (full_is ⟨#[99]⟩ C _ (by decide) HC.out).mono ?_
  rintro e w0 ⟨rfl, rfl⟩
  go_wp2_with fail
  refine (write_own h4 1 C (hasC 2 rfl (by omega) (by omega)) ZC.out (notDead rfl) (lenC 1 rfl (by decide))).mono ?_
  rintro e w5 ⟨rfl, h5⟩
  go_wp2_with fail
  refine (full_is ⟨#[120]⟩ X _ (by decide) HX.out).mono ?_
  rintro e w0 ⟨rfl, rfl⟩
  go_wp2_with fail
  refine (write_arg_own h5 2 X (hasN 2 rfl (by omega))).mono ?_
  rintro e w6 ⟨rfl, h6⟩
  go_wp2_with fail
  refine (write_form_own h6 1 ⟨#[120]⟩ (hasC 2 rfl (by omega) (by omega)) (by decide)).mono ?_
  rintro e w7 ⟨rfl, h7⟩
  go_wp2_with fail
  refine (read_own h7 0 (hasC 2 rfl (by omega) (by omega)) B rfl).mono ?_
  rintro e w8 ⟨rfl, h8⟩
  go_wp2_with fail
  refine (pending_own h8 2 rfl).mono ?_
  rintro e w9 ⟨rfl, h9⟩
  go_wp2_with fail
  refine (limit_own h9 0 (by omega) (by omega)).mono ?_
  rintro e w10 ⟨rfl, h10⟩
  go_wp2_with fail
  refine (full_is ⟨#[100]⟩ E _ (by decide) HE.out).mono ?_
  rintro e w0 ⟨rfl, rfl⟩
  go_wp2_with fail
  refine (write_dead_own h10 1 E (hasC 2 rfl (by omega) (by omega)) ZE.out (by simp [St.dead, St.limit])).mono ?_
  rintro e w11 ⟨rfl, h11⟩
  go_wp2_with fail
  refine (flush_dead_own h11 (by simp [St.dead, St.limit])).mono ?_
  rintro e w12 ⟨rfl, h12⟩
  go_wp2_with fail
  refine (crash_lit h12 [false, true] 2 rfl (by omega) _ _ rfl 0 3 (lenC 2 rfl (by decide))).mono ?_
  rintro e w13 ⟨rfl, h13⟩
  go_wp2_with fail
  refine (read_own h13 0 (hasC 2 rfl (by omega) (by omega)) _ ((sx3_cur0 A B C ZA.out ZB.out).trans HM.out)).mono ?_
  rintro e w14 ⟨rfl, h14⟩
  go_wp2_with fail
  refine (read_own h14 1 (hasC 2 rfl (by omega) (by omega)) C (sx3_cur1 A B C ZC.out)).mono ?_
  rintro e w15 ⟨rfl, h15⟩
  go_wp2_with fail
  refine (read_no_own h15 (-1) (hasN 2 rfl (by omega))).mono ?_
  rintro e w16 ⟨rfl, h16⟩
  go_wp2_with fail
  refine (full_is ⟨#[98]⟩ B _ (by decide) HB.out).mono ?_
  rintro e w0 ⟨rfl, rfl⟩
  go_wp2_with fail
  refine (full_is ⟨#[97]⟩ A _ (by decide) HA.out).mono ?_
  rintro e w0 ⟨rfl, rfl⟩
  go_wp2_with fail
  refine (full_is ⟨#[99]⟩ C _ (by decide) HC.out).mono ?_
  rintro e w0 ⟨rfl, rfl⟩
  go_wp2_with fail
  refine (pending_own h16 0 rfl).mono ?_
  rintro e w17 ⟨rfl, h17⟩
  go_wp2_with fail
  refine (len_own h17 2 rfl).mono ?_
  rintro e w18 ⟨rfl, h18⟩
  go_wp2_with fail
  refine (full_is ⟨#[101]⟩ G _ (by decide) HG.out).mono ?_
  rintro e w0 ⟨rfl, rfl⟩
  go_wp2_with fail
  refine (write_own h18 1 G (hasC 2 rfl (by omega) (by omega)) ZG.out (notDead rfl) (lenC 0 rfl (by decide))).mono ?_
  rintro e w19 ⟨rfl, h19⟩
  go_wp2_with fail
  go_ret
  exact ⟨rfl, h19.below⟩

end Go.Proofs.Ytoblkjahohlflaa
