/- Contracts of record.Decode and record.Next, for every text: the record whose sector it is, or none; no memory that was there is changed. -/
import Derived.Test.YtgpcfdkblkkpeaaRecF
namespace Go.Proofs.Ytgpcfdkblkkpeaa
open Go.RowKit Go.Lib Wd Cr Ck
set_option linter.unusedVariables false

/-- A zero record lies at block B, and may be written. -/
structure ZR (W : World) (B : Nat) : Prop where
  L : LiesR W B 0 0 0 0 0 ⟨#[]⟩ ⟨#[]⟩
  F : ∀ j, j < 7 → W.frozen? ⟨B, j, none⟩ = false
theorem ZR.later {W w : World} {B : Nat} (h : ZR W B) (hb : Below W.heap.size W w) : ZR w B :=
  ⟨h.L.later hb, fun j hj => ((bcell hb).2 _ _ h.L.lt).trans (h.F j hj)⟩
theorem layZ (t : TypeId) (w : World) : ZR (w.alloc (.cells #[.int .u64 0, .int .u32 0, .int .i64 0, .int .u64 0, .int .u64 0, .string ⟨#[]⟩, .string ⟨#[]⟩] t)) w.heap.size :=
  ⟨layR 0 0 0 0 0 ⟨#[]⟩ ⟨#[]⟩ t w, fun j hj => by simp [go_sem]⟩
theorem below1 (w : World) (o : Obj) : Below w.heap.size w (w.alloc o) := (Below.refl _ _).alloc (Nat.le_refl _) _

theorem eq_self (s : ByteArray) : (s.toList == s.toList) = true := by rw [beq_iff_eq]
theorem ne_str {s t : ByteArray} (h : s.data.toList ≠ t.data.toList) : (s.toList == t.toList) = false := by
  rw [beq_eq_false_iff_ne, toList_data, toList_data]; exact h

set_option maxHeartbeats 4000000 in
set_option maxRecDepth 100000 in
theorem decode_yes (s : ByteArray) (l e k v d : Int) (i a : ByteArray) (w : World) (hs : s.size ≤ 140737488355328) (hR : cutR s.data.toList = ⟨l, e, k, v, d, i.data.toList, a.data.toList⟩) (h : isSec s.data.toList = true) :
    Calls Try.prog 13 #[.string s] w fun e' w' => e' = .returned (.tuple #[.agg #[.int .u64 l, .int .u32 e, .int .i64 k, .int .u64 v, .int .u64 d, .string i, .string a], .int .i64 0]) ∧ Below w.heap.size w w' := by
  obtain ⟨h1, h2⟩ := (isSec_iff _).1 h
  have hf := cutR_fits s.data.toList
  rw [hR] at h1 h2 hf
  have C := Lib.hid (fun w => cut_any s l e k v d i a w hs hR)
  have D := Lib.hid (fun w => encode_yes l e k v d i a s w hf h1 h2)
  have hq := eq_self s
  have Z0 := layZ 25 w
  have B0 := below1 w (.cells #[.int .u64 0, .int .u32 0, .int .i64 0, .int .u64 0, .int .u64 0, .string ⟨#[]⟩, .string ⟨#[]⟩] 25)
  clear h1 h2 hf hR h
  go_enter Try.func13, Try.ntmps13
  go_wp2_with fail
  refine (C.out _).mono ?_
  rintro e' w1 ⟨rfl, hb1⟩
  have Z1 := Z0.later hb1
  have B1 := Wd.Ge.trans B0 hb1
  clear Z0 B0 hb1
  have L0 := layR l e k v d i a 25 w1
  have Z2 := Z1.later (below1 w1 (.cells #[.int .u64 l, .int .u32 e, .int .i64 k, .int .u64 v, .int .u64 d, .string i, .string a] 25))
  have B2 := Wd.Ge.trans B1 (below1 w1 (.cells #[.int .u64 l, .int .u32 e, .int .i64 k, .int .u64 v, .int .u64 d, .string i, .string a] 25))
  go_wp2_with fail
  refine (D.out _).mono ?_
  rintro e' w2 ⟨rfl, hb2⟩
  have Z3 := Z2.later hb2
  have B3 := Wd.Ge.trans B2 hb2
  obtain ⟨g, c0, c1, c2, c3, c4, c5, c6⟩ := L0.later hb2
  clear Z1 Z2 B1 B2 hb2 L0 C D
  obtain ⟨g', o0, o1, o2, o3, o4, o5, o6⟩ := Z3.L
  have z0 := Z3.F 0 (by omega)
  have z1 := Z3.F 1 (by omega)
  have z2 := Z3.F 2 (by omega)
  have z3 := Z3.F 3 (by omega)
  have z4 := Z3.F 4 (by omega)
  have z5 := Z3.F 5 (by omega)
  have z6 := Z3.F 6 (by omega)
  have ZZ := Lib.hid Z3
  have BB := Lib.hid B3
  clear Z3 B3
  go_wp2_with fail
  have L := put7 l e k v d i a (there_of ZZ.out.L ZZ.out.F) ZZ.out.L.lt
  have HB := below7 l e k v d i a BB.out (Nat.le_refl _)
  exact bodyPost_ret (res_rec2 rfl _ _ w.heap.size rfl L) rfl ⟨rfl, HB⟩

set_option maxHeartbeats 4000000 in
set_option maxRecDepth 100000 in
theorem decode_no (s : ByteArray) (w : World) (hs : s.size ≤ 140737488355328) (h : isSec s.data.toList = false) :
    Calls Try.prog 13 #[.string s] w fun e' w' => e' = .returned (.tuple #[.agg #[.int .u64 0, .int .u32 0, .int .i64 0, .int .u64 0, .int .u64 0, .string ⟨#[]⟩, .string ⟨#[]⟩], .int .i64 5]) ∧ Below w.heap.size w w' := by
  obtain ⟨l, e, k, v, d, i, a, hR⟩ : ∃ l e k v d, ∃ i a : ByteArray, cutR s.data.toList = ⟨l, e, k, v, d, i.data.toList, a.data.toList⟩ := ⟨_, _, _, _, _, ⟨(cutR s.data.toList).i.toArray⟩, ⟨(cutR s.data.toList).a.toArray⟩, rfl⟩
  have hf := cutR_fits s.data.toList
  have hzi : i.size ≤ maxLen := by
    have h1 := congrArg (fun r => r.i.length) hR
    simp only [cutR, List.length_take, List.length_drop] at h1
    rw [← Go.Lib.size_eq, ← Go.Lib.size_eq] at h1
    unfold maxLen; omega
  have hza : a.size ≤ maxLen := by
    have h1 := congrArg (fun r => r.a.length) hR
    simp only [cutR, List.length_take, List.length_drop] at h1
    rw [← Go.Lib.size_eq, ← Go.Lib.size_eq] at h1
    unfold maxLen; omega
  rw [hR] at hf
  have C := Lib.hid (fun w => cut_any s l e k v d i a w hs hR)
  have Z0 := layZ 25 w
  have B0 := below1 w (.cells #[.int .u64 0, .int .u32 0, .int .i64 0, .int .u64 0, .int .u64 0, .string ⟨#[]⟩, .string ⟨#[]⟩] 25)
  have key : (∃ S : ByteArray, ∃ x : Int, (∀ w, Calls Try.prog 10 #[.agg #[.int .u64 l, .int .u32 e, .int .i64 k, .int .u64 v, .int .u64 d, .string i, .string a]] w fun e' w' => e' = .returned (.tuple #[.string S, .int .i64 x]) ∧ Below w.heap.size w w') ∧ (x = 5 ∨ x = 0 ∧ (S.toList == s.toList) = false)) := by
    cases ho : okR ⟨l, e, k, v, d, i.data.toList, a.data.toList⟩
    · exact ⟨⟨#[]⟩, 5, fun w => encode_no l e k v d i a w hzi hza ho, .inl rfl⟩
    · refine ⟨⟨(secL ⟨l, e, k, v, d, i.data.toList, a.data.toList⟩).toArray⟩, 0, fun w => encode_yes l e k v d i a _ w hf ho (by simp), .inr ⟨rfl, ne_str ?_⟩⟩
      intro hq
      have : isSec s.data.toList = true := by
        rw [isSec_iff, hR]; exact ⟨ho, by simpa using hq⟩
      rw [h] at this; exact absurd this (by decide)
  obtain ⟨S, x, D0, hx⟩ := key
  have D := Lib.hid D0
  clear D0 h hR hf hzi hza
  rcases hx with rfl | ⟨rfl, hq⟩
  all_goals
    go_enter Try.func13, Try.ntmps13
    go_wp2_with fail
    refine (C.out _).mono ?_
    rintro e' w1 ⟨rfl, hb1⟩
    have Z1 := Z0.later hb1
    have B1 := Wd.Ge.trans B0 hb1
    clear Z0 B0 hb1
    have L0 := layR l e k v d i a 25 w1
    have Z2 := Z1.later (below1 w1 (.cells #[.int .u64 l, .int .u32 e, .int .i64 k, .int .u64 v, .int .u64 d, .string i, .string a] 25))
    have B2 := Wd.Ge.trans B1 (below1 w1 (.cells #[.int .u64 l, .int .u32 e, .int .i64 k, .int .u64 v, .int .u64 d, .string i, .string a] 25))
    go_wp2_with fail
    refine (D.out _).mono ?_
    rintro e' w2 ⟨rfl, hb2⟩
    have Z3 := Z2.later hb2
    have B3 := Wd.Ge.trans B2 hb2
    clear Z1 Z2 B1 B2 hb2 L0 C D
    obtain ⟨g', o0, o1, o2, o3, o4, o5, o6⟩ := Z3.L
    have z0 := Z3.F 0 (by omega)
    have z1 := Z3.F 1 (by omega)
    have z2 := Z3.F 2 (by omega)
    have z3 := Z3.F 3 (by omega)
    have z4 := Z3.F 4 (by omega)
    have z5 := Z3.F 5 (by omega)
    have z6 := Z3.F 6 (by omega)
    have ZZ := Lib.hid Z3
    have BB := Lib.hid B3
    clear Z3 B3
    go_wp2_with fail
    have L := put7 0 0 0 0 0 ⟨#[]⟩ ⟨#[]⟩ (there_of ZZ.out.L ZZ.out.F) ZZ.out.L.lt
    have HB := below7 0 0 0 0 0 ⟨#[]⟩ ⟨#[]⟩ BB.out (Nat.le_refl _)
    exact bodyPost_ret (res_rec2 rfl _ _ w.heap.size rfl L) rfl ⟨rfl, HB⟩

end Go.Proofs.Ytgpcfdkblkkpeaa
