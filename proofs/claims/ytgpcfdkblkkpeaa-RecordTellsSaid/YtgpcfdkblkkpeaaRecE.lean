/- Contracts of record.Encode, for every record: its sector, if it may be, and the error, if not; no memory that was there is changed. -/
import Derived.Test.YtgpcfdkblkkpeaaRecB
namespace Go.Proofs.Ytgpcfdkblkkpeaa
open Go.RowKit Go.Lib Wd Cr Ck
set_option linter.unusedVariables false

theorem sum_is (s : ByteArray) (M : Int) (w : World) (hs : s.size ≤ maxLen) (hM : ((Crc.more 0 s.data.toList : Nat) : Int) = M) :
    Calls Try.prog 24 #[.string s] w fun e w' => e = .returned (.int .u32 M) ∧ Below w.heap.size w w' := by
  subst hM; exact sum_any s w hs

theorem encode_no (l e k v d : Int) (i a : ByteArray) (w : World) (hs : i.size ≤ maxLen) (ha : a.size ≤ maxLen) (h : okR ⟨l, e, k, v, d, i.data.toList, a.data.toList⟩ = false) :
    Calls Try.prog 10 #[.agg #[.int .u64 l, .int .u32 e, .int .i64 k, .int .u64 v, .int .u64 d, .string i, .string a]] w fun e' w' => e' = .returned (.tuple #[.string ⟨#[]⟩, .int .i64 5]) ∧ Below w.heap.size w w' := by
  have C := Lib.hid (fun w => right_any l e k v d i a false w hs ha h)
  have B0 := Lib.hid ((Below.refl w.heap.size w).alloc (Nat.le_refl _) (.cells #[.int .u64 l, .int .u32 e, .int .i64 k, .int .u64 v, .int .u64 d, .string i, .string a] 25))
  go_enter Try.func10, Try.ntmps10
  go_wp2_with fail
  refine (C.out _).mono ?_
  rintro e' w1 ⟨rfl, hb⟩
  go_wp2_with fail
  go_ret2
  exact ⟨rfl, B0.out.trans (hb.mono B0.out.size)⟩

set_option maxHeartbeats 4000000 in
set_option maxRecDepth 100000 in
theorem encode_yes (l e k v d : Int) (i a : ByteArray) (S : ByteArray) (w : World) (hf : Fits ⟨l, e, k, v, d, i.data.toList, a.data.toList⟩) (h : okR ⟨l, e, k, v, d, i.data.toList, a.data.toList⟩ = true) (hS : secL ⟨l, e, k, v, d, i.data.toList, a.data.toList⟩ = S.data.toList) :
    Calls Try.prog 10 #[.agg #[.int .u64 l, .int .u32 e, .int .i64 k, .int .u64 v, .int .u64 d, .string i, .string a]] w fun e' w' => e' = .returned (.tuple #[.string S, .int .i64 0]) ∧ Below w.heap.size w w' := by
  have hi := okR_i h
  have ha := okR_a h
  simp only at hi ha
  have hik := Go.Lib.size_eq i
  have hak := Go.Lib.size_eq a
  have h0 := inv0 l e k v d i a 25 w
  have C := Lib.hid (fun w => right_any l e k v d i a true w (by unfold maxLen; omega) (by unfold maxLen; omega) h)
  obtain ⟨b, Hb⟩ : ∃ T : ByteArray, Hid (bodyL ⟨l, e, k, v, d, i.data.toList, a.data.toList⟩ = T.data.toList) := ⟨⟨(bodyL ⟨l, e, k, v, d, i.data.toList, a.data.toList⟩).toArray⟩, Lib.hid (by simp)⟩
  have D := Lib.hid (fun w => body_any l e k v d i a b w hf h Hb.out)
  obtain ⟨T0, H0⟩ : ∃ T : ByteArray, Hid (stampL ⟨l, e, k, v, d, i.data.toList, a.data.toList⟩ = T.data.toList) := ⟨⟨(stampL ⟨l, e, k, v, d, i.data.toList, a.data.toList⟩).toArray⟩, Lib.hid (by simp)⟩
  obtain ⟨M, HM⟩ : ∃ M : Int, Hid (((Crc.more 0 b.data.toList : Nat) : Int) = M) := ⟨_, rfl⟩
  have M0 : 0 ≤ M := by rw [← HM.out]; omega
  have M1 : M < 4294967296 := by
    have := Crc.more_lt b.data.toList (s := 0) (by omega)
    rw [← HM.out]; omega
  obtain ⟨T1, H1⟩ : ∃ T : ByteArray, Hid ((⟨(putL M.toNat (clampN 4)).toArray⟩ : ByteArray) = T) := ⟨_, rfl⟩
  have zb : b.size = 112 := by rw [Go.Lib.size_eq, ← Hb.out]; exact bodyL_len h
  have z0 : T0.size = 12 := by rw [Go.Lib.size_eq, ← H0.out]; exact stampL_len _
  have z1 : T1.size = 4 := by rw [← H1.out]; exact put_size _ _
  obtain ⟨U1, J1⟩ : ∃ U, b ++ T1 = U := ⟨_, rfl⟩
  have y1 : U1.size = 116 := by rw [← J1, ByteArray.size_append]; omega
  have JS : U1 ++ T0 = S := by
    refine app_is ?_
    rw [← J1, ByteArray.data_append, Array.toList_append, ← Hb.out, ← H0.out, ← H1.out, ← hS, secL, ← HM.out, ← Hb.out, Int.toNat_natCast]
    rfl
  have q1 : ¬ 9223372036854775807 < b.size + T1.size := by omega
  have q2 : ¬ 9223372036854775807 < U1.size + T0.size := by omega
  have hbs : b.size ≤ maxLen := by unfold maxLen; omega
  obtain ⟨l0, l1, e0, e1, v0, v1, d0, d1⟩ := hf
  simp only at l0 l1 e0 e1 v0 v1 d0 d1
  clear hi ha hik hak zb z0 z1 y1 hS h
  go_enter Try.func10, Try.ntmps10
  go_wp2_with fail
  refine (C.out _).mono ?_
  rintro e' w1 ⟨rfl, hb1⟩
  have h1 : InvR w w.heap.size l e k v d i a w1 := ⟨Wd.Ge.trans h0.b hb1, h0.m.later hb1⟩
  obtain ⟨g, c0, c1, c2, c3, c4, c5, c6⟩ := h1.m
  go_wp2_with fail
  refine (D.out _).mono ?_
  rintro e' w2 ⟨rfl, hb2⟩
  have h2 : InvR w w.heap.size l e k v d i a w2 := ⟨Wd.Ge.trans h1.b hb2, h1.m.later hb2⟩
  clear c0 c1 c2 c3 c4 c5 c6 h1 hb1 hb2 h0
  go_wp2_with fail
  have hne : Nonempty (In (InvR w w.heap.size l e k v d i a)) := ⟨⟨_, h2⟩⟩
  have F0 : ∀ j : In (InvR w w.heap.size l e k v d i a), j.W.cell? ⟨w.heap.size, 0, none⟩ = some (.int .u64 l) := fun j => j.h.m.c0
  have F1 : ∀ j : In (InvR w w.heap.size l e k v d i a), j.W.cell? ⟨w.heap.size, 1, none⟩ = some (.int .u32 e) := fun j => j.h.m.c1
  have F2 : ∀ j : In (InvR w w.heap.size l e k v d i a), j.W.cell? ⟨w.heap.size, 2, none⟩ = some (.int .i64 k) := fun j => j.h.m.c2
  have F3 : ∀ j : In (InvR w w.heap.size l e k v d i a), j.W.cell? ⟨w.heap.size, 3, none⟩ = some (.int .u64 v) := fun j => j.h.m.c3
  have F4 : ∀ j : In (InvR w w.heap.size l e k v d i a), j.W.cell? ⟨w.heap.size, 4, none⟩ = some (.int .u64 d) := fun j => j.h.m.c4
  have F5 : ∀ j : In (InvR w w.heap.size l e k v d i a), j.W.cell? ⟨w.heap.size, 5, none⟩ = some (.string i) := fun j => j.h.m.c5
  have F6 : ∀ j : In (InvR w w.heap.size l e k v d i a), j.W.cell? ⟨w.heap.size, 6, none⟩ = some (.string a) := fun j => j.h.m.c6
  refine region_class (InvR w w.heap.size l e k v d i a) (by kernel_rfl) (by kernel_rfl) h2.drawn ?_
  repeat (go_big_quiet_step (first
    | (go_at_call 24; with_reducible exact class_call _ (fun hi => inv_ge hi (sum_is b M _ hbs HM.out)))
    | (go_at_call 25; with_reducible exact class_call _ (fun hi => inv_ge hi (stamp_any l e k v d i a T0 _ l0 l1 e0 e1 H0.out)))
    | (go_at_call 23; with_reducible exact class_call _ (fun hi => inv_ge hi (put_at M 4 T1 _ M0 (by omega) H1.out)))))
  refine wpQuiet_nil ?_
  rintro _ ⟨j, rfl⟩
  go_wp2_with fail
  go_ret2
  exact ⟨rfl, j.h.b⟩

end Go.Proofs.Ytgpcfdkblkkpeaa
