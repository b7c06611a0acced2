/- What the program's Newest, Sessions and Upto must do; the calls whose answers the document fixes. -/
import Derived.Test.YtckakkocblkcoaaReH
import Derived.Test.YtckakkocblkcoaaReO
namespace Go.Proofs.Ytckakkocblkcoaa.Re
open Go.RowKit Go.Lib
open Sp
set_option linter.unusedVariables false
set_option maxRecDepth 100000

def Fine (L : List Rec) : Prop := ∀ r ∈ L, ROk r
structure Prg : Prop where
  nw : ∀ {w : World} {A : Option Addr} {n : Nat} (p : Nat) {L : List Rec}, RR w A n L → n ≤ 200 → Fine L → Calls Try.prog 12 #[.slice A n p] w fun e w' => ∃ A' p', e = .returned (.slice A' (newest L).length p') ∧ RR w' A' (newest L).length (newest L) ∧ Below w.heap.size w w'
  ss : ∀ {w : World} {A : Option Addr} {n : Nat} (p : Nat) {L : List Rec} (now : Int), RR w A n L → n ≤ 200 → Fine L → (0 ≤ now ∧ now < 18446744073709551616) → Calls Try.prog 16 #[.slice A n p, .int .u64 now] w fun e w' => ∃ A' p', e = .returned (.slice A' (sesL (newest L) now).length p') ∧ SR w' A' (sesL (newest L) now).length (sesL (newest L) now) ∧ Below w.heap.size w w'
  ut : ∀ {w : World} {A : Option Addr} {n : Nat} (p : Nat) {L : List Rec} (ver : Int), RR w A n L → n ≤ 200 → Fine L → (0 ≤ ver ∧ ver < 18446744073709551616) → Calls Try.prog 18 #[.slice A n p, .int .u64 ver] w fun e w' => ∃ A' p', e = .returned (.slice A' (upL L ver).length p') ∧ RR w' A' (upL L ver).length (upL L ver) ∧ Below w.heap.size w w'
theorem RR.lit (w : World) (T : TypeId) (L : List Rec) (cs : Array Value) (h : cs = (L.flatMap rcC).toArray) : RR (w.alloc (.cells cs T)) (some ⟨w.heap.size, 0, none⟩) L.length L :=
  ⟨rfl, fun _ => ⟨w.heap.size, 0, rfl, fun i j r hi hj => by
    rw [Nat.zero_add, (Sp.Blk.new w T cs).cell, h]
    simpa using flat_get rcC 7 rcC_len L i r j hi hj⟩⟩
theorem SR.lit (w : World) (T : TypeId) (L : List Ses) (cs : Array Value) (h : cs = (L.flatMap seC).toArray) : SR (w.alloc (.cells cs T)) (some ⟨w.heap.size, 0, none⟩) L.length L :=
  ⟨rfl, fun _ => ⟨w.heap.size, 0, rfl, fun i s hi => by
    have hh : ∀ j, j < 3 → (w.alloc (.cells cs T)).cell? ⟨w.heap.size, 0 + i * 3 + j, none⟩ = (seC s)[j]? := fun j hj => by
      rw [Nat.zero_add, (Sp.Blk.new w T cs).cell, h]
      simpa using flat_get seC 3 seC_len L i s j hi hj
    exact ⟨hh 0 (by decide), hh 1 (by decide), hh 2 (by decide)⟩⟩⟩
theorem RR.take {w : World} {A : Option Addr} {n : Nat} {L : List Rec} (h : RR w A n L) (m : Nat) (hm : m ≤ n) : RR w A m (L.take m) :=
  ⟨by rw [List.length_take, ← h.len]; omega, fun h0 => by
    obtain ⟨g, o, e, hc⟩ := h.c (by omega)
    exact ⟨g, o, e, fun i j r hi hj => hc i j r (by
      have hlt := (List.getElem?_eq_some_iff.1 hi).1
      rw [List.length_take] at hlt
      rwa [List.getElem?_take_of_lt (by omega)] at hi) hj⟩⟩
def fixL : List Rec := [⟨0, 0, 1, 1, 9, ⟨#[97]⟩, ⟨#[]⟩⟩, ⟨0, 0, 2, 2, 0, ⟨#[97]⟩, ⟨#[]⟩⟩, ⟨0, 0, 1, 1, 5, ⟨#[98]⟩, ⟨#[120]⟩⟩, ⟨0, 0, 1, 3, 7, ⟨#[97]⟩, ⟨#[]⟩⟩, ⟨0, 0, 3, 8, 0, ⟨#[]⟩, ⟨#[]⟩⟩]
theorem fix_new : newest fixL = [⟨0, 0, 1, 3, 7, ⟨#[97]⟩, ⟨#[]⟩⟩, ⟨0, 0, 1, 1, 5, ⟨#[98]⟩, ⟨#[120]⟩⟩] := by
  refine (newest_of (by unfold Srt; simp [Rec.key]; decide) fun x => ?_).symm
  by_cases h1 : [97] = x
  · subst h1
    simp [fixL, best_cons, best_nil, one, isL, Rec.key, look, joinR]
  · by_cases h2 : [98] = x
    · subst h2
      simp [fixL, best_cons, best_nil, one, isL, Rec.key, look, joinR]
    · simp [fixL, best_cons, best_nil, one, isL, Rec.key, look, joinR, h1, h2]
theorem fix_two : newest (fixL.take 2) = [⟨0, 0, 2, 2, 0, ⟨#[97]⟩, ⟨#[]⟩⟩] := by
  refine (newest_of (List.pairwise_singleton _ _) fun x => ?_).symm
  by_cases h1 : [97] = x
  · subst h1
    simp [fixL, best_cons, best_nil, one, isL, Rec.key, look, joinR]
  · simp [fixL, best_cons, best_nil, one, isL, Rec.key, look, joinR, h1]
theorem fix_fine : Fine fixL := by
  intro r hr
  simp only [fixL, List.mem_cons, List.not_mem_nil, or_false] at hr
  rcases hr with rfl | rfl | rfl | rfl | rfl <;> exact ⟨by decide, by decide, by decide, by decide⟩
set_option maxHeartbeats 16000000 in
theorem fixed_any (P : Prg) (w : World) : Calls Try.prog 20 #[] w fun e w' => e = .returned (.bool true) ∧ Below w.heap.size w w' := by
  have R0 : RR (w.alloc (.cells (fixL.flatMap rcC).toArray 42)) (some ⟨w.heap.size, 0, none⟩) 5 fixL := RR.lit w 42 fixL _ rfl
  have B0 := below1 w (.cells (fixL.flatMap rcC).toArray 42)
  go_enter Try.func20, Try.ntmps20
  go_upto_region 2 with fail
  change Code.wp _ _ _ _ (w.alloc (.cells (fixL.flatMap rcC).toArray 42))
  have HR := Lib.hid R0
  have HB0 := Lib.hid B0
  clear R0 B0
  obtain ⟨b, eb⟩ : ∃ z, w.heap.size = z := ⟨_, rfl⟩
  rw [eb] at HR ⊢
  clear eb
  generalize w.alloc (.cells (fixL.flatMap rcC).toArray 42) = w1 at *
  have HF := Lib.hid fix_fine
  have HC : Hid (∀ W, Below w1.heap.size w1 W → Calls Try.prog 12 #[.slice (some ⟨b, 0, none⟩) 5 5] W fun e w' => ∃ A' p', e = .returned (.slice A' 2 p') ∧ RR w' A' 2 [⟨0, 0, 1, 3, 7, ⟨#[97]⟩, ⟨#[]⟩⟩, ⟨0, 0, 1, 1, 5, ⟨#[98]⟩, ⟨#[120]⟩⟩] ∧ Below W.heap.size W w') := Lib.hid (fun W hb => by
    have h := P.nw 5 (HR.out.later hb) (by decide) HF.out
    rw [fix_new] at h
    exact h)
  have HS5 : Hid (∀ W, Below w1.heap.size w1 W → Calls Try.prog 16 #[.slice (some ⟨b, 0, none⟩) 5 5, .int .u64 5] W fun e w' => ∃ A' p', e = .returned (.slice A' 1 p') ∧ SR w' A' 1 [⟨⟨#[97]⟩, ⟨#[]⟩, 7⟩] ∧ Below W.heap.size W w') := Lib.hid (fun W hb => by
    have h := P.ss 5 5 (HR.out.later hb) (by decide) HF.out (by decide)
    rw [fix_new] at h
    exact h)
  have HS4 : Hid (∀ W, Below w1.heap.size w1 W → Calls Try.prog 16 #[.slice (some ⟨b, 0, none⟩) 5 5, .int .u64 4] W fun e w' => ∃ A' p', e = .returned (.slice A' 2 p') ∧ SR w' A' 2 [⟨⟨#[97]⟩, ⟨#[]⟩, 7⟩, ⟨⟨#[98]⟩, ⟨#[120]⟩, 5⟩] ∧ Below W.heap.size W w') := Lib.hid (fun W hb => by
    have h := P.ss 5 4 (HR.out.later hb) (by decide) HF.out (by decide)
    rw [fix_new] at h
    exact h)
  have HS0 : Hid (∀ p W, Below w1.heap.size w1 W → Calls Try.prog 16 #[.slice (some ⟨b, 0, none⟩) 2 p, .int .u64 0] W fun e w' => ∃ A' p', e = .returned (.slice A' 0 p') ∧ Below W.heap.size W w') := Lib.hid (fun p W hb => by
    have h := P.ss p 0 ((HR.out.later hb).take 2 (by decide)) (by decide) (fun r hr => HF.out r (List.mem_of_mem_take hr)) (by decide)
    rw [fix_two] at h
    exact h.mono fun e w' ⟨A', p', he, _, hb⟩ => ⟨A', p', he, hb⟩)
  have HU : Hid (∀ W, Below w1.heap.size w1 W → Calls Try.prog 18 #[.slice (some ⟨b, 0, none⟩) 5 5, .int .u64 1] W fun e w' => ∃ A' p', e = .returned (.slice A' 2 p') ∧ Below W.heap.size W w') := Lib.hid (fun W hb => by
    have h := P.ut 5 1 (HR.out.later hb) (by decide) HF.out (by decide)
    exact h.mono fun e w' ⟨A', p', he, _, hb⟩ => ⟨A', p', he, hb⟩)
  have HNL : Hid (∀ W, Calls Try.prog 12 #[.slice none 0 0] W fun e w' => ∃ A' p', e = .returned (.slice A' 0 p') ∧ Below W.heap.size W w') := Lib.hid (fun W => by
    have h := P.nw 0 (RR.nil W none) (by decide) (by intro r hr; cases hr)
    exact h.mono fun e w' ⟨A', p', he, _, hb⟩ => ⟨A', p', he, hb⟩)
  go_wp2_with fail
  refine (HC.out _ (Below.refl _ _)).mono ?_
  rintro e' w2 ⟨A2, p2, rfl, hr2, hb2⟩
  have BB2 := Lib.hid hb2
  obtain ⟨g, o, rfl, hc⟩ := hr2.rc (by decide)
  have x3 : w2.cell? ⟨g, o + 3, none⟩ = some (.int .u64 3) := by simpa using (hc 0 _ rfl).c3
  have x5 : w2.cell? ⟨g, o + 12, none⟩ = some (.string ⟨#[98]⟩) := by simpa [Nat.add_assoc] using (hc 1 _ rfl).c5
  have q5 : ((⟨#[98]⟩ : ByteArray).toList == (⟨#[98]⟩ : ByteArray).toList) = true := by simp
  clear hr2 hc hb2
  go_wp2_with fail
  refine (HS5.out _ BB2.out).mono ?_
  rintro e' w3 ⟨A3, p3, rfl, hr3, hb3⟩
  have BB3 := Lib.hid (BB2.out.trans (hb3.mono BB2.out.size))
  have HL := Lib.hid (lives_any (p := p3) hr3 (by decide))
  clear hb3 hr3 x3 x5 q5
  go_wp2_with fail
  refine HL.out.mono ?_
  rintro e' w4 ⟨A4, p4, rfl, hr4, hb4⟩
  have BB4 := Lib.hid (BB3.out.trans (hb4.mono BB3.out.size))
  have Z := SR.lit w4 61 [⟨⟨#[97]⟩, ⟨#[]⟩, 7⟩] #[.string ⟨#[97]⟩, .string ⟨#[]⟩, .int .u64 7] rfl
  have hbz := below1 w4 (.cells #[.string ⟨#[97]⟩, .string ⟨#[]⟩, .int .u64 7] 61)
  have HQ := Lib.hid (fun p q => same_yes (p := p) (q := q) (hr4.later hbz) Z (by decide))
  have BB5 := Lib.hid (BB4.out.trans (hbz.mono BB4.out.size))
  clear hb4 hr4 Z hbz HL
  go_wp2_with fail
  refine (HQ.out _ _).mono ?_
  rintro e' w5 ⟨rfl, hb5⟩
  have BB6 := Lib.hid (BB5.out.trans (hb5.mono BB5.out.size))
  clear hb5 HQ
  go_wp2_with fail
  refine (HS4.out _ BB6.out).mono ?_
  rintro e' w6 ⟨A6, p6, rfl, hr6, hb6⟩
  have BB7 := Lib.hid (BB6.out.trans (hb6.mono BB6.out.size))
  have HL := Lib.hid (lives_any (p := p6) hr6 (by decide))
  clear hb6 hr6
  go_wp2_with fail
  refine HL.out.mono ?_
  rintro e' w7 ⟨A7, p7, rfl, hr7, hb7⟩
  have BB8 := Lib.hid (BB7.out.trans (hb7.mono BB7.out.size))
  have Z := SR.lit w7 61 [⟨⟨#[97]⟩, ⟨#[]⟩, 7⟩, ⟨⟨#[98]⟩, ⟨#[120]⟩, 5⟩] #[.string ⟨#[97]⟩, .string ⟨#[]⟩, .int .u64 7, .string ⟨#[98]⟩, .string ⟨#[120]⟩, .int .u64 5] rfl
  have hbz := below1 w7 (.cells #[.string ⟨#[97]⟩, .string ⟨#[]⟩, .int .u64 7, .string ⟨#[98]⟩, .string ⟨#[120]⟩, .int .u64 5] 61)
  have HQ := Lib.hid (fun p q => same_yes (p := p) (q := q) (hr7.later hbz) Z (by decide))
  have BB9 := Lib.hid (BB8.out.trans (hbz.mono BB8.out.size))
  clear hb7 hr7 Z hbz HL
  go_wp2_with fail
  refine (HQ.out _ _).mono ?_
  rintro e' w8 ⟨rfl, hb8⟩
  have BBa := Lib.hid (BB9.out.trans (hb8.mono BB9.out.size))
  clear hb8 HQ
  go_wp2_with fail
  refine (HS0.out _ _ BBa.out).mono ?_
  rintro e' w9 ⟨A9, p9, rfl, hb9⟩
  have BBb := Lib.hid (BBa.out.trans (hb9.mono BBa.out.size))
  clear hb9
  go_wp2_with fail
  refine (HU.out _ BBb.out).mono ?_
  rintro e' wa ⟨Aa, pa, rfl, hba⟩
  have BBc := Lib.hid (BBb.out.trans (hba.mono BBb.out.size))
  clear hba
  go_wp2_with fail
  refine (HNL.out _).mono ?_
  rintro e' wb ⟨Ab, pb, rfl, hbb⟩
  have BBd := Lib.hid (BBc.out.trans (hbb.mono BBc.out.size))
  clear hbb
  go_wp2_with fail
  go_ret
  exact ⟨rfl, HB0.out.trans (BBd.out.mono HB0.out.size)⟩
end Go.Proofs.Ytckakkocblkcoaa.Re
