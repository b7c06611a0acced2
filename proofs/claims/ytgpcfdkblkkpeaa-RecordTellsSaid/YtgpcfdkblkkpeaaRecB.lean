/- Contracts of record's stamp and body, for every record that may be: the bytes that each returns, and that no memory that was there is changed. -/
import Derived.Test.YtgpcfdkblkkpeaaRecA
import Derived.Test.YtgpcfdkblkkpeaaClass
import Derived.Test.YtgpcfdkblkkpeaaShelf
namespace Go.Proofs.Ytgpcfdkblkkpeaa
open Go.RowKit Go.Lib Wd Cr Ck
set_option linter.unusedVariables false

theorem bcell {W w1 : World} (hb : Below W.heap.size W w1) : (∀ b o, b < W.heap.size → w1.cell? ⟨b, o, none⟩ = W.cell? ⟨b, o, none⟩) ∧ (∀ b o, b < W.heap.size → w1.frozen? ⟨b, o, none⟩ = W.frozen? ⟨b, o, none⟩) :=
  ⟨fun b o h => hb.cell (p := ⟨b, o, none⟩) h, fun b o h => hb.frozen (p := ⟨b, o, none⟩) h⟩

/-- A record lies at block B. -/
structure LiesR (W : World) (B : Nat) (l e k v d : Int) (i a : ByteArray) : Prop where
  lt : B < W.heap.size
  c0 : W.cell? ⟨B, 0, none⟩ = some (.int .u64 l)
  c1 : W.cell? ⟨B, 1, none⟩ = some (.int .u32 e)
  c2 : W.cell? ⟨B, 2, none⟩ = some (.int .i64 k)
  c3 : W.cell? ⟨B, 3, none⟩ = some (.int .u64 v)
  c4 : W.cell? ⟨B, 4, none⟩ = some (.int .u64 d)
  c5 : W.cell? ⟨B, 5, none⟩ = some (.string i)
  c6 : W.cell? ⟨B, 6, none⟩ = some (.string a)
theorem LiesR.later {W w : World} {B : Nat} {l e k v d : Int} {i a : ByteArray} (h : LiesR W B l e k v d i a) (hb : Below W.heap.size W w) : LiesR w B l e k v d i a :=
  have e := (bcell hb).1
  ⟨Nat.lt_of_lt_of_le h.lt hb.size, (e _ _ h.lt).trans h.c0, (e _ _ h.lt).trans h.c1, (e _ _ h.lt).trans h.c2, (e _ _ h.lt).trans h.c3, (e _ _ h.lt).trans h.c4, (e _ _ h.lt).trans h.c5, (e _ _ h.lt).trans h.c6⟩
theorem layR (l e k v d : Int) (i a : ByteArray) (t : TypeId) (w : World) : LiesR (w.alloc (.cells #[.int .u64 l, .int .u32 e, .int .i64 k, .int .u64 v, .int .u64 d, .string i, .string a] t)) w.heap.size l e k v d i a := by
  refine ⟨by simp, ?_, ?_, ?_, ?_, ?_, ?_, ?_⟩ <;> simp [World.cell?_alloc_at]

/-- All old memory as it was, and the record lies at B. -/
structure InvR (w : World) (B : Nat) (l e k v d : Int) (i a : ByteArray) (W : World) : Prop where
  b : Below w.heap.size w W
  m : LiesR W B l e k v d i a
theorem InvR.drawn {w W : World} {B : Nat} {l e k v d : Int} {i a : ByteArray} (h : InvR w B l e k v d i a W) : InvR w B l e k v d i a { W with drawn := W.drawn + 1 } :=
  ⟨⟨h.b.os, h.b.tape, h.b.output, h.b.size, h.b.block⟩, ⟨h.m.lt, h.m.c0, h.m.c1, h.m.c2, h.m.c3, h.m.c4, h.m.c5, h.m.c6⟩⟩
theorem inv_ge {w W : World} {B : Nat} {l e k v d : Int} {i a : ByteArray} {P : Program} {f : FuncId} {args : Array Value} {x : Value} (h : InvR w B l e k v d i a W) (c : Calls P f args W fun e' w' => e' = .returned x ∧ Below W.heap.size W w') :
    Calls P f args W fun e' w' => e' = .returned x ∧ InvR w B l e k v d i a w' :=
  c.mono fun _ _ ⟨he, hb⟩ => ⟨he, Wd.Ge.trans h.b hb, h.m.later hb⟩
theorem inv0 (l e k v d : Int) (i a : ByteArray) (t : TypeId) (w : World) : InvR w w.heap.size l e k v d i a (w.alloc (.cells #[.int .u64 l, .int .u32 e, .int .i64 k, .int .u64 v, .int .u64 d, .string i, .string a] t)) :=
  ⟨(Below.refl _ _).alloc (Nat.le_refl _) _, layR l e k v d i a t w⟩

theorem app_is {S T U : ByteArray} (h : S.data.toList ++ T.data.toList = U.data.toList) : S ++ T = U := by
  apply ByteArray.ext
  rw [ByteArray.data_append]
  apply Array.toList_inj.1
  rw [Array.toList_append]; exact h
theorem size_of {S : ByteArray} {l : List UInt8} (h : S.data.toList = l) : S.size = l.length := by rw [Go.Lib.size_eq, h]

set_option maxHeartbeats 1000000 in
theorem stamp_any (l e k v d : Int) (i a : ByteArray) (S : ByteArray) (w : World) (hl0 : 0 ≤ l) (hl1 : l < 18446744073709551616) (he0 : 0 ≤ e) (he1 : e < 4294967296) (hS : stampL ⟨l, e, k, v, d, i.data.toList, a.data.toList⟩ = S.data.toList) :
    Calls Try.prog 25 #[.agg #[.int .u64 l, .int .u32 e, .int .i64 k, .int .u64 v, .int .u64 d, .string i, .string a]] w fun e' w' => e' = .returned (.string S) ∧ Below w.heap.size w w' := by
  have h0 := inv0 l e k v d i a 25 w
  obtain ⟨S1, H1⟩ : ∃ S1 : ByteArray, Hid ((⟨(putL l.toNat (clampN 8)).toArray⟩ : ByteArray) = S1) := ⟨_, rfl⟩
  obtain ⟨S2, H2⟩ : ∃ S2 : ByteArray, Hid ((⟨(putL e.toNat (clampN 4)).toArray⟩ : ByteArray) = S2) := ⟨_, rfl⟩
  have J : Hid (S1 ++ S2 = S) := by
    refine Lib.hid (app_is ?_)
    rw [← H1.out, ← H2.out, ← hS]
    rfl
  have z1 : S1.size = 8 := by rw [← H1.out]; exact put_size _ _
  have z2 : S2.size = 4 := by rw [← H2.out]; exact put_size _ _
  have hz : ¬ 9223372036854775807 < S1.size + S2.size := by omega
  clear z1 z2 hS
  go_enter Try.func25, Try.ntmps25
  go_wp2_with fail
  have hne : Nonempty (In (InvR w w.heap.size l e k v d i a)) := ⟨⟨_, h0⟩⟩
  have F0 : ∀ j : In (InvR w w.heap.size l e k v d i a), j.W.cell? ⟨w.heap.size, 0, none⟩ = some (.int .u64 l) := fun j => j.h.m.c0
  have F1 : ∀ j : In (InvR w w.heap.size l e k v d i a), j.W.cell? ⟨w.heap.size, 1, none⟩ = some (.int .u32 e) := fun j => j.h.m.c1
  refine region_class (InvR w w.heap.size l e k v d i a) (by kernel_rfl) (by kernel_rfl) h0.drawn ?_
  repeat (go_big_quiet_step (first
    | (go_at_call 23; with_reducible exact class_call _ (fun hi => inv_ge hi (put_at l 8 S1 _ hl0 hl1 H1.out)))
    | (go_at_call 23; with_reducible exact class_call _ (fun hi => inv_ge hi (put_at e 4 S2 _ he0 (by omega) H2.out)))))
  refine wpQuiet_nil ?_
  rintro _ ⟨j, rfl⟩
  go_wp2_with fail
  go_ret
  exact ⟨by rw [J.out]; rfl, j.h.b⟩

theorem rep0 (c : Nat) : repeatL [(0 : UInt8)] c = List.replicate c 0 := by
  induction c with
  | zero => rfl
  | succ c ih => rw [repeatL, ih, List.replicate_succ]; rfl

set_option maxHeartbeats 4000000 in
set_option maxRecDepth 100000 in
theorem body_any (l e k v d : Int) (i a : ByteArray) (S : ByteArray) (w : World) (hf : Fits ⟨l, e, k, v, d, i.data.toList, a.data.toList⟩) (h : okR ⟨l, e, k, v, d, i.data.toList, a.data.toList⟩ = true) (hS : bodyL ⟨l, e, k, v, d, i.data.toList, a.data.toList⟩ = S.data.toList) :
    Calls Try.prog 22 #[.agg #[.int .u64 l, .int .u32 e, .int .i64 k, .int .u64 v, .int .u64 d, .string i, .string a]] w fun e' w' => e' = .returned (.string S) ∧ Below w.heap.size w w' := by
  have hk := okR_k h
  have hi := okR_i h
  have ha := okR_a h
  have hlen := fieldsL_len ⟨l, e, k, v, d, i.data.toList, a.data.toList⟩
  simp only at hk hi ha hlen
  obtain ⟨l0, l1, e0, e1, v0, v1, d0, d1⟩ := hf
  simp only at l0 l1 e0 e1 v0 v1 d0 d1
  have hik := Go.Lib.size_eq i
  have hak := Go.Lib.size_eq a
  have h0 := inv0 l e k v d i a 25 w
  obtain ⟨T0, H0⟩ : ∃ T : ByteArray, Hid (stampL ⟨l, e, k, v, d, i.data.toList, a.data.toList⟩ = T.data.toList) := ⟨⟨(stampL ⟨l, e, k, v, d, i.data.toList, a.data.toList⟩).toArray⟩, Lib.hid (by simp)⟩
  obtain ⟨T1, H1⟩ : ∃ T : ByteArray, Hid ((⟨(putL k.toNat (clampN 1)).toArray⟩ : ByteArray) = T) := ⟨_, rfl⟩
  obtain ⟨T2, H2⟩ : ∃ T : ByteArray, Hid ((⟨(putL ((i.size : Int)).toNat (clampN 1)).toArray⟩ : ByteArray) = T) := ⟨_, rfl⟩
  obtain ⟨T3, H3⟩ : ∃ T : ByteArray, Hid ((⟨(putL ((a.size : Int)).toNat (clampN 1)).toArray⟩ : ByteArray) = T) := ⟨_, rfl⟩
  obtain ⟨T4, H4⟩ : ∃ T : ByteArray, Hid ((⟨(putL v.toNat (clampN 8)).toArray⟩ : ByteArray) = T) := ⟨_, rfl⟩
  obtain ⟨T5, H5⟩ : ∃ T : ByteArray, Hid ((⟨(putL d.toNat (clampN 8)).toArray⟩ : ByteArray) = T) := ⟨_, rfl⟩
  have z0 : T0.size = 12 := by rw [Go.Lib.size_eq, ← H0.out]; exact stampL_len _
  have z1 : T1.size = 1 := by rw [← H1.out]; exact put_size _ _
  have z2 : T2.size = 1 := by rw [← H2.out]; exact put_size _ _
  have z3 : T3.size = 1 := by rw [← H3.out]; exact put_size _ _
  have z4 : T4.size = 8 := by rw [← H4.out]; exact put_size _ _
  have z5 : T5.size = 8 := by rw [← H5.out]; exact put_size _ _
  obtain ⟨U1, J1⟩ : ∃ U, T0 ++ T1 = U := ⟨_, rfl⟩
  obtain ⟨U2, J2⟩ : ∃ U, U1 ++ T2 = U := ⟨_, rfl⟩
  obtain ⟨U3, J3⟩ : ∃ U, U2 ++ T3 = U := ⟨_, rfl⟩
  obtain ⟨U4, J4⟩ : ∃ U, U3 ++ T4 = U := ⟨_, rfl⟩
  obtain ⟨U5, J5⟩ : ∃ U, U4 ++ T5 = U := ⟨_, rfl⟩
  obtain ⟨U6, J6⟩ : ∃ U, U5 ++ i = U := ⟨_, rfl⟩
  obtain ⟨U7, J7⟩ : ∃ U, U6 ++ a = U := ⟨_, rfl⟩
  have y1 : U1.size = 13 := by rw [← J1, ByteArray.size_append]; omega
  have y2 : U2.size = 14 := by rw [← J2, ByteArray.size_append]; omega
  have y3 : U3.size = 15 := by rw [← J3, ByteArray.size_append]; omega
  have y4 : U4.size = 23 := by rw [← J4, ByteArray.size_append]; omega
  have y5 : U5.size = 31 := by rw [← J5, ByteArray.size_append]; omega
  have y6 : U6.size = 31 + i.size := by rw [← J6, ByteArray.size_append]; omega
  have y7 : U7.size = 31 + i.size + a.size := by rw [← J7, ByteArray.size_append]; omega
  have q1 : ¬ 9223372036854775807 < T0.size + T1.size := by omega
  have q2 : ¬ 9223372036854775807 < U1.size + T2.size := by omega
  have q3 : ¬ 9223372036854775807 < U2.size + T3.size := by omega
  have q4 : ¬ 9223372036854775807 < U3.size + T4.size := by omega
  have q5 : ¬ 9223372036854775807 < U4.size + T5.size := by omega
  have q6 : ¬ 9223372036854775807 < U5.size + i.size := by omega
  have q7 : ¬ 9223372036854775807 < U6.size + a.size := by omega
  obtain ⟨c, hc⟩ : ∃ c : Nat, 112 - (U7.size : Int) = (c : Int) := ⟨112 - U7.size, by omega⟩
  have cb : c ≤ 112 := by omega
  have E7 : Hid (U7.data.toList = fieldsL ⟨l, e, k, v, d, i.data.toList, a.data.toList⟩) := by
    refine Lib.hid ?_
    rw [← J7, ← J6, ← J5, ← J4, ← J3, ← J2, ← J1]
    simp only [ByteArray.data_append, Array.toList_append, ← H0.out, ← H1.out, ← H2.out, ← H3.out, ← H4.out, ← H5.out, hik, hak]
    rfl
  obtain ⟨Z, HZ⟩ : ∃ Z : ByteArray, Hid ((⟨(repeatL ((⟨#[0]⟩ : ByteArray).data.toList) c).toArray⟩ : ByteArray) = Z) := ⟨_, rfl⟩
  have JS : Hid (U7 ++ Z = S) := by
    refine Lib.hid (app_is ?_)
    rw [E7.out, ← HZ.out, ← hS, bodyL, hlen]
    have ec : c = 112 - (31 + i.data.toList.length + a.data.toList.length) := by omega
    rw [← ec, ← rep0 c]
  have zz : Z.size = c := by rw [← HZ.out, Go.Lib.size_eq]; simp [repeatL_length]
  have q8 : ¬ 9223372036854775807 < U7.size + Z.size := by omega
  have C := Lib.hid (fun w => Sh.strings_Repeat ⟨#[0]⟩ c w (by omega) (by show 1 * c ≤ _; omega))
  rw [HZ.out] at C
  have kb0 : 0 ≤ k := by omega
  have kb1 : k < 256 := by omega
  have ib : (i.size : Int) < 256 := by omega
  have ab : (a.size : Int) < 256 := by omega
  clear z0 z1 z2 z3 z4 z5 y1 y2 y3 y4 y5 y6 y7 zz hlen hi ha hik hak hS hk cb h
  go_enter Try.func22, Try.ntmps22
  go_wp2_with fail
  have hne : Nonempty (In (InvR w w.heap.size l e k v d i a)) := ⟨⟨_, h0⟩⟩
  have F0 : ∀ j : In (InvR w w.heap.size l e k v d i a), j.W.cell? ⟨w.heap.size, 0, none⟩ = some (.int .u64 l) := fun j => j.h.m.c0
  have F1 : ∀ j : In (InvR w w.heap.size l e k v d i a), j.W.cell? ⟨w.heap.size, 1, none⟩ = some (.int .u32 e) := fun j => j.h.m.c1
  have F2 : ∀ j : In (InvR w w.heap.size l e k v d i a), j.W.cell? ⟨w.heap.size, 2, none⟩ = some (.int .i64 k) := fun j => j.h.m.c2
  have F3 : ∀ j : In (InvR w w.heap.size l e k v d i a), j.W.cell? ⟨w.heap.size, 3, none⟩ = some (.int .u64 v) := fun j => j.h.m.c3
  have F4 : ∀ j : In (InvR w w.heap.size l e k v d i a), j.W.cell? ⟨w.heap.size, 4, none⟩ = some (.int .u64 d) := fun j => j.h.m.c4
  have F5 : ∀ j : In (InvR w w.heap.size l e k v d i a), j.W.cell? ⟨w.heap.size, 5, none⟩ = some (.string i) := fun j => j.h.m.c5
  have F6 : ∀ j : In (InvR w w.heap.size l e k v d i a), j.W.cell? ⟨w.heap.size, 6, none⟩ = some (.string a) := fun j => j.h.m.c6
  refine region_class (InvR w w.heap.size l e k v d i a) (by kernel_rfl) (by kernel_rfl) h0.drawn ?_
  repeat (go_big_quiet_step (first
    | (go_at_call 25; with_reducible exact class_call _ (fun hi => inv_ge hi (stamp_any l e k v d i a T0 _ l0 l1 e0 e1 H0.out)))
    | (go_at_call 23; with_reducible exact class_call _ (fun hi => inv_ge hi (put_at k 1 T1 _ kb0 (by omega) H1.out)))
    | (go_at_call 23; with_reducible exact class_call _ (fun hi => inv_ge hi (put_at (i.size : Int) 1 T2 _ (by omega) (by omega) H2.out)))
    | (go_at_call 23; with_reducible exact class_call _ (fun hi => inv_ge hi (put_at (a.size : Int) 1 T3 _ (by omega) (by omega) H3.out)))
    | (go_at_call 23; with_reducible exact class_call _ (fun hi => inv_ge hi (put_at v 8 T4 _ v0 v1 H4.out)))
    | (go_at_call 23; with_reducible exact class_call _ (fun hi => inv_ge hi (put_at d 8 T5 _ d0 d1 H5.out)))))
  refine wpQuiet_nil ?_
  rintro _ ⟨j, rfl⟩
  go_wp2_with fail
  refine (C.out _).mono ?_
  rintro e' w' ⟨rfl, hb⟩
  go_wp2_with fail
  go_ret
  exact ⟨by rw [JS.out]; rfl, Wd.Ge.trans j.h.b hb⟩

end Go.Proofs.Ytgpcfdkblkkpeaa
