/- Contracts of ckpt's body and Encode, for every checkpoint: its bytes, if it may be, and the error, if not; no memory that was there is changed. -/
import Derived.Test.YtdnkhjikfdalbaaCpA
import Derived.Test.YtdnkhjikfdalbaaShelf
import Derived.Deep.QuietTactic
import Derived.BigQuiet
import Derived.Deep.RegionWith
namespace Go.Proofs.Ytdnkhjikfdalbaa
open Go.RowKit Go.Lib Wd Cr
set_option linter.unusedVariables false

/-- A checkpoint lies at block bk. -/
structure LiesC (W : World) (bk : Nat) (g e l v : Int) (A : Option Addr) (m p : Nat) (B : Option Addr) (k q : Nat) : Prop where
  lt : bk < W.heap.size
  c0 : W.cell? ⟨bk, 0, none⟩ = some (.int .u64 g)
  c1 : W.cell? ⟨bk, 1, none⟩ = some (.int .u32 e)
  c2 : W.cell? ⟨bk, 2, none⟩ = some (.int .u64 l)
  c3 : W.cell? ⟨bk, 3, none⟩ = some (.int .u64 v)
  c4 : W.cell? ⟨bk, 4, none⟩ = some (.slice A m p)
  c5 : W.cell? ⟨bk, 5, none⟩ = some (.slice B k q)
theorem LiesC.later {W w : World} {bk : Nat} {g e l v : Int} {A : Option Addr} {m p : Nat} {B : Option Addr} {k q : Nat} (h : LiesC W bk g e l v A m p B k q) (hb : Below W.heap.size W w) : LiesC w bk g e l v A m p B k q :=
  have e := (bcell hb).1
  ⟨Nat.lt_of_lt_of_le h.lt hb.size, (e _ _ h.lt).trans h.c0, (e _ _ h.lt).trans h.c1, (e _ _ h.lt).trans h.c2, (e _ _ h.lt).trans h.c3, (e _ _ h.lt).trans h.c4, (e _ _ h.lt).trans h.c5⟩
theorem layC (g e l v : Int) (A : Option Addr) (m p : Nat) (B : Option Addr) (k q : Nat) (t : TypeId) (w : World) : LiesC (w.alloc (.cells #[.int .u64 g, .int .u32 e, .int .u64 l, .int .u64 v, .slice A m p, .slice B k q] t)) w.heap.size g e l v A m p B k q := by
  refine ⟨by simp, ?_, ?_, ?_, ?_, ?_, ?_⟩ <;> simp [World.cell?_alloc_at]

/-- All old memory as it was; the checkpoint lies at bk, its lists are o and n. -/
structure InvC (w : World) (bk : Nat) (g e l v : Int) (A : Option Addr) (m p : Nat) (B : Option Addr) (k q : Nat) (o n : List Int) (W : World) : Prop where
  b : Below w.heap.size w W
  L : LiesC W bk g e l v A m p B k q
  sa : Sl W A m o
  sb : Sl W B k n
theorem InvC.later {w W W' : World} {bk : Nat} {g e l v : Int} {A : Option Addr} {m p : Nat} {B : Option Addr} {k q : Nat} {o n : List Int} (h : InvC w bk g e l v A m p B k q o n W) (hb : Below W.heap.size W W') : InvC w bk g e l v A m p B k q o n W' :=
  ⟨Wd.Ge.trans h.b hb, h.L.later hb, h.sa.later hb, h.sb.later hb⟩
theorem below_drawn (W : World) : Below W.heap.size W { W with drawn := W.drawn + 1 } :=
  let h := Below.refl W.heap.size W
  ⟨h.os, h.tape, h.output, h.size, h.block⟩
theorem InvC.drawn {w W : World} {bk : Nat} {g e l v : Int} {A : Option Addr} {m p : Nat} {B : Option Addr} {k q : Nat} {o n : List Int} (h : InvC w bk g e l v A m p B k q o n W) : InvC w bk g e l v A m p B k q o n { W with drawn := W.drawn + 1 } := h.later (below_drawn W)
theorem inv_ge {w W : World} {bk : Nat} {g e l v : Int} {A : Option Addr} {m p : Nat} {B : Option Addr} {k q : Nat} {o n : List Int} {P : Program} {f : FuncId} {args : Array Value} {x : Value} (h : InvC w bk g e l v A m p B k q o n W) (c : Calls P f args W fun e' w' => e' = .returned x ∧ Below W.heap.size W w') :
    Calls P f args W fun e' w' => e' = .returned x ∧ InvC w bk g e l v A m p B k q o n w' :=
  c.mono fun _ _ ⟨he, hb⟩ => ⟨he, h.later hb⟩
theorem inv0 (g e l v : Int) (A : Option Addr) (m p : Nat) (B : Option Addr) (k q : Nat) {o n : List Int} (t : TypeId) (w : World) (hA : Sl w A m o) (hB : Sl w B k n) : InvC w w.heap.size g e l v A m p B k q o n (w.alloc (.cells #[.int .u64 g, .int .u32 e, .int .u64 l, .int .u64 v, .slice A m p, .slice B k q] t)) :=
  ⟨below1 _ _, layC g e l v A m p B k q t w, hA.later (below1 _ _), hB.later (below1 _ _)⟩

theorem app_is {S T U : ByteArray} (h : S.data.toList ++ T.data.toList = U.data.toList) : S ++ T = U := by
  apply ByteArray.ext
  rw [ByteArray.data_append]
  apply Array.toList_inj.1
  rw [Array.toList_append]; exact h
theorem rep0 (c : Nat) : repeatL [(0 : UInt8)] c = List.replicate c 0 := by
  induction c with
  | zero => rfl
  | succ c ih => rw [repeatL, ih, List.replicate_succ]; rfl

set_option maxHeartbeats 4000000 in
set_option maxRecDepth 100000 in
theorem body_any (g e l v : Int) (A : Option Addr) (m p : Nat) (B : Option Addr) (k q : Nat) (o n : List Int) (S : ByteArray) (w : World) (hA : Sl w A m o) (hB : Sl w B k n) (hf : Fits ⟨g, e, l, v, o, n⟩) (h : okC ⟨g, e, l, v, o, n⟩ = true) (hS : bodyL ⟨g, e, l, v, o, n⟩ = S.data.toList) :
    Calls Try.prog 23 #[.agg #[.int .u64 g, .int .u32 e, .int .u64 l, .int .u64 v, .slice A m p, .slice B k q]] w fun e' w' => e' = .returned (.string S) ∧ Below w.heap.size w w' := by
  have h0 := inv0 g e l v A m p B k q 26 w hA hB
  obtain ⟨ho1, ho2, ho3⟩ := okC_o h
  have hseg := (segB_iff _ _).1 ((okC_iff _).1 h).2
  have hlen := fieldsL_len ⟨g, e, l, v, o, n⟩
  simp only at ho1 ho2 ho3 hlen hseg
  obtain ⟨g0, g1, e0, e1, l0, l1, v0, v1⟩ := hf
  simp only at g0 g1 e0 e1 l0 l1 v0 v1
  have hmo := hA.len
  have hkn := hB.len
  have hm1 : 1 ≤ m := by omega
  have hm2 : m ≤ 16 := by omega
  have hkm : k = m := by omega
  obtain ⟨ba, oa, rfl, hba, ca⟩ := hA.cells (by omega)
  obtain ⟨bb, ob, rfl, hbb, cb⟩ := hB.cells (by omega)
  subst hkm
  have CA := Lib.hid ca
  have CB := Lib.hid cb
  have HO := Lib.hid hmo
  have HN := Lib.hid hkn
  have SG := Lib.hid hseg
  clear ca cb hseg
  obtain ⟨T1, H1⟩ : ∃ T : ByteArray, Hid ((⟨(putL g.toNat (clampN 8)).toArray⟩ : ByteArray) = T) := ⟨_, rfl⟩
  obtain ⟨T2, H2⟩ : ∃ T : ByteArray, Hid ((⟨(putL e.toNat (clampN 4)).toArray⟩ : ByteArray) = T) := ⟨_, rfl⟩
  obtain ⟨T3, H3⟩ : ∃ T : ByteArray, Hid ((⟨(putL l.toNat (clampN 8)).toArray⟩ : ByteArray) = T) := ⟨_, rfl⟩
  obtain ⟨T4, H4⟩ : ∃ T : ByteArray, Hid ((⟨(putL v.toNat (clampN 8)).toArray⟩ : ByteArray) = T) := ⟨_, rfl⟩
  obtain ⟨T5, H5⟩ : ∃ T : ByteArray, Hid ((⟨(putL ((k : Int)).toNat (clampN 1)).toArray⟩ : ByteArray) = T) := ⟨_, rfl⟩
  have z1 : T1.size = 8 := by rw [← H1.out]; exact put_size _ _
  have z2 : T2.size = 4 := by rw [← H2.out]; exact put_size _ _
  have z3 : T3.size = 8 := by rw [← H3.out]; exact put_size _ _
  have z4 : T4.size = 8 := by rw [← H4.out]; exact put_size _ _
  have z5 : T5.size = 1 := by rw [← H5.out]; exact put_size _ _
  obtain ⟨U1, J1⟩ : ∃ U, T1 ++ T2 = U := ⟨_, rfl⟩
  obtain ⟨U2, J2⟩ : ∃ U, U1 ++ T3 = U := ⟨_, rfl⟩
  obtain ⟨U3, J3⟩ : ∃ U, U2 ++ T4 = U := ⟨_, rfl⟩
  obtain ⟨U4, J4⟩ : ∃ U, U3 ++ T5 = U := ⟨_, rfl⟩
  have y1 : U1.size = 12 := by rw [← J1, ByteArray.size_append]; omega
  have y2 : U2.size = 20 := by rw [← J2, ByteArray.size_append]; omega
  have y3 : U3.size = 28 := by rw [← J3, ByteArray.size_append]; omega
  have y4 : U4.size = 29 := by rw [← J4, ByteArray.size_append]; omega
  have q1 : ¬ 9223372036854775807 < T1.size + T2.size := by omega
  have q2 : ¬ 9223372036854775807 < U1.size + T3.size := by omega
  have q3 : ¬ 9223372036854775807 < U2.size + T4.size := by omega
  have q4 : ¬ 9223372036854775807 < U3.size + T5.size := by omega
  have E4 : Hid (U4.data.toList = headL ⟨g, e, l, v, o, n⟩) := by
    refine Lib.hid ?_
    rw [← J4, ← J3, ← J2, ← J1]
    simp only [ByteArray.data_append, Array.toList_append, ← H1.out, ← H2.out, ← H3.out, ← H4.out, ← H5.out, headL, ← hmo]
    rfl
  have ib : (k : Int) < 256 := by omega
  have hkk : (k : Int) ≤ 16 := by omega
  clear z1 z2 z3 z4 z5 y1 y2 y3 y4 ho1 ho2 ho3 h hmo hkn
  go_enter Try.func23, Try.ntmps23
  go_wp2_with fail
  have hne : Nonempty (In (InvC w w.heap.size g e l v (some ⟨ba, oa, none⟩) k p (some ⟨bb, ob, none⟩) k q o n)) := ⟨⟨_, h0⟩⟩
  have F0 : ∀ j : In (InvC w w.heap.size g e l v (some ⟨ba, oa, none⟩) k p (some ⟨bb, ob, none⟩) k q o n), j.W.cell? ⟨w.heap.size, 0, none⟩ = some (.int .u64 g) := fun j => j.h.L.c0
  have F1 : ∀ j : In (InvC w w.heap.size g e l v (some ⟨ba, oa, none⟩) k p (some ⟨bb, ob, none⟩) k q o n), j.W.cell? ⟨w.heap.size, 1, none⟩ = some (.int .u32 e) := fun j => j.h.L.c1
  have F2 : ∀ j : In (InvC w w.heap.size g e l v (some ⟨ba, oa, none⟩) k p (some ⟨bb, ob, none⟩) k q o n), j.W.cell? ⟨w.heap.size, 2, none⟩ = some (.int .u64 l) := fun j => j.h.L.c2
  have F3 : ∀ j : In (InvC w w.heap.size g e l v (some ⟨ba, oa, none⟩) k p (some ⟨bb, ob, none⟩) k q o n), j.W.cell? ⟨w.heap.size, 3, none⟩ = some (.int .u64 v) := fun j => j.h.L.c3
  have F4 : ∀ j : In (InvC w w.heap.size g e l v (some ⟨ba, oa, none⟩) k p (some ⟨bb, ob, none⟩) k q o n), j.W.cell? ⟨w.heap.size, 4, none⟩ = some (.slice (some ⟨ba, oa, none⟩) k p) := fun j => j.h.L.c4
  have F5 : ∀ j : In (InvC w w.heap.size g e l v (some ⟨ba, oa, none⟩) k p (some ⟨bb, ob, none⟩) k q o n), j.W.cell? ⟨w.heap.size, 5, none⟩ = some (.slice (some ⟨bb, ob, none⟩) k q) := fun j => j.h.L.c5
  refine region_class (InvC w w.heap.size g e l v (some ⟨ba, oa, none⟩) k p (some ⟨bb, ob, none⟩) k q o n) (by kernel_rfl) (by kernel_rfl) h0.drawn ?_
  repeat (go_big_quiet_step (first
    | (go_at_call 24; with_reducible exact class_call _ (fun hi => inv_ge hi (put_at g 8 T1 _ g0 g1 H1.out)))
    | (go_at_call 24; with_reducible exact class_call _ (fun hi => inv_ge hi (put_at e 4 T2 _ e0 (by omega) H2.out)))
    | (go_at_call 24; with_reducible exact class_call _ (fun hi => inv_ge hi (put_at l 8 T3 _ l0 l1 H3.out)))
    | (go_at_call 24; with_reducible exact class_call _ (fun hi => inv_ge hi (put_at v 8 T4 _ v0 v1 H4.out)))
    | (go_at_call 24; with_reducible exact class_call _ (fun hi => inv_ge hi (put_at (k : Int) 1 T5 _ (by omega) (by omega) H5.out)))))
  refine wpQuiet_nil ?_
  rintro _ ⟨j0, rfl⟩
  go_wp2_with fail
  go_loopg [3, 31] 16 (fun gk s3 s31 wr => ∃ i : Nat, ∃ Z : ByteArray, i ≤ k ∧ gk = 16 - i ∧ s31 = .int .i64 i ∧ s3 = .string Z ∧ Hid (Z.data.toList = headL ⟨g, e, l, v, o, n⟩ ++ pairsF (nth o) (nth n) i) ∧ Hid (InvC w w.heap.size g e l v (some ⟨ba, oa, none⟩) k p (some ⟨bb, ob, none⟩) k q o n wr))
  case atStart => exact ⟨0, U4, by omega, rfl, rfl, rfl, Lib.hid (by rw [E4.out]; simp [pairsF]), Lib.hid j0.h⟩
  case round =>
    obtain ⟨i, Z, hi, hgk, rfl, rfl, HZ, V⟩ := hrel
    have HG := Lib.hid hgk
    clear hgk
    have zZ : Z.size = 29 + 2 * i := by rw [Go.Lib.size_eq, HZ.out, List.length_append, headL_len, pairsF_len]
    by_cases hlt : i < k
    · have hlti : (i : Int) < (k : Int) := by omega
      have hoi : i < o.length := by have := HO.out; omega
      have hni : i < n.length := by have := HN.out; omega
      obtain ⟨x, X⟩ : ∃ x, Hid (nth o i = x) := ⟨_, rfl⟩
      obtain ⟨y, Y⟩ : ∃ y, Hid (nth n i = y) := ⟨_, rfl⟩
      have hx : 0 ≤ x ∧ x < 16 := by rw [← X.out]; exact SG.out.2.2.2.1 _ (nth_mem hoi)
      have hy : 0 ≤ y ∧ y ≤ 30 := by rw [← Y.out]; exact SG.out.2.2.2.2.1 _ (nth_mem hni)
      obtain ⟨hx0, hx1⟩ := hx
      obtain ⟨hy0, hy1⟩ := hy
      have ha := ((bcell V.out.b).1 ba (oa + i) hba).trans (CA.out i hlt)
      rw [X.out] at ha
      obtain ⟨X1, HX⟩ : ∃ T : ByteArray, Hid ((⟨(putL x.toNat (clampN 1)).toArray⟩ : ByteArray) = T) := ⟨_, rfl⟩
      obtain ⟨Y1, HY⟩ : ∃ T : ByteArray, Hid ((⟨(putL y.toNat (clampN 1)).toArray⟩ : ByteArray) = T) := ⟨_, rfl⟩
      have zx : X1.size = 1 := by rw [← HX.out]; exact put_size _ _
      have zy : Y1.size = 1 := by rw [← HY.out]; exact put_size _ _
      obtain ⟨XY, JX⟩ : ∃ U, X1 ++ Y1 = U := ⟨_, rfl⟩
      obtain ⟨ZZ, JZ⟩ : ∃ U, Z ++ XY = U := ⟨_, rfl⟩
      have zxy : XY.size = 2 := by rw [← JX, ByteArray.size_append]; omega
      have r1 : ¬ 9223372036854775807 < X1.size + Y1.size := by omega
      have r2 : ¬ 9223372036854775807 < Z.size + XY.size := by omega
      have HZZ : Hid (ZZ.data.toList = headL ⟨g, e, l, v, o, n⟩ ++ pairsF (nth o) (nth n) (i + 1)) := by
        refine Lib.hid ?_
        rw [← JZ, ByteArray.data_append, Array.toList_append, HZ.out, ← JX, ByteArray.data_append, Array.toList_append, ← HX.out, ← HY.out, pairsF, X.out, Y.out, List.append_assoc]
        rfl
      have V0 := V.out
      obtain ⟨_, ⟨lt0, c0, c1, c2, c3, c4, c5⟩, _, _⟩ := V0
      clear zZ zx zy zxy
      go_wp2_with fail
      have G5 : ∀ j : In (InvC w w.heap.size g e l v (some ⟨ba, oa, none⟩) k p (some ⟨bb, ob, none⟩) k q o n), j.W.cell? ⟨bb, ob + i, none⟩ = some (.int .i64 y) := fun j => by
        rw [← Y.out]; exact ((bcell j.h.b).1 bb (ob + i) hbb).trans (CB.out i hlt)
      refine region_class (InvC w w.heap.size g e l v (some ⟨ba, oa, none⟩) k p (some ⟨bb, ob, none⟩) k q o n) (by kernel_rfl) (by kernel_rfl) V.out.drawn ?_
      repeat (go_big_quiet_step (first
        | (go_at_call 24; with_reducible exact class_call _ (fun hi => inv_ge hi (put_at x 1 X1 _ hx0 (by omega) HX.out)))
        | (go_at_call 24; with_reducible exact class_call _ (fun hi => inv_ge hi (put_at y 1 Y1 _ hy0 (by omega) HY.out)))))
      refine wpQuiet_nil ?_
      rintro _ ⟨j1, rfl⟩
      go_wp2_with fail
      go_roundg (16 - (i + 1))
      case measure => have := HG.out; omega
      case rel => exact ⟨i + 1, ZZ, by omega, rfl, by go_num, rfl, HZZ, Lib.hid j1.h⟩
    · obtain rfl : i = k := by omega
      have hlti : ¬ (i : Int) < (i : Int) := by omega
      obtain ⟨c, hc⟩ : ∃ c : Nat, 116 - (Z.size : Int) = (c : Int) := ⟨116 - Z.size, by omega⟩
      obtain ⟨Y, HY⟩ : ∃ Y : ByteArray, Hid ((⟨(repeatL ((⟨#[0]⟩ : ByteArray).data.toList) c).toArray⟩ : ByteArray) = Y) := ⟨_, rfl⟩
      have zz : Y.size = c := by rw [← HY.out, Go.Lib.size_eq]; simp [repeatL_length]
      have JS : Hid (Z ++ Y = S) := by
        refine Lib.hid (app_is ?_)
        have ef : headL ⟨g, e, l, v, o, n⟩ ++ pairsF (nth o) (nth n) i = fieldsL ⟨g, e, l, v, o, n⟩ := by
          unfold fieldsL pairsL
          rw [← HO.out]
        rw [HZ.out, ← HY.out, ← hS, bodyL, hlen, ef]
        have ec : c = 116 - (29 + 2 * o.length) := by have := HO.out; omega
        rw [← ec, ← rep0 c]
      have r1 : ¬ 9223372036854775807 < Z.size + Y.size := by omega
      have C := Lib.hid (fun w => Sh.strings_Repeat ⟨#[0]⟩ c w (by omega) (by show 1 * c ≤ _; omega))
      rw [HY.out] at C
      clear zZ zz hlen hS
      go_wp2_with fail
      refine (C.out _).mono ?_
      rintro e' w' ⟨rfl, hb⟩
      go_wp2_with fail
      go_ret
      exact ⟨by rw [JS.out]; rfl, Wd.Ge.trans V.out.b hb⟩

theorem sum_is (s : ByteArray) (M : Int) (w : World) (hs : s.size ≤ maxLen) (hM : ((Crc.more 0 s.data.toList : Nat) : Int) = M) :
    Calls Try.prog 25 #[.string s] w fun e w' => e = .returned (.int .u32 M) ∧ Below w.heap.size w w' := by
  subst hM; exact sum_any s w hs

theorem encode_no (g e l v : Int) (A : Option Addr) (m p : Nat) (B : Option Addr) (k q : Nat) (o n : List Int) (w : World) (hA : Sl w A m o) (hB : Sl w B k n) (hm : m ≤ maxLen) (hg : 0 ≤ g) (hl : 0 ≤ l) (h : okC ⟨g, e, l, v, o, n⟩ = false) :
    Calls Try.prog 10 #[.agg #[.int .u64 g, .int .u32 e, .int .u64 l, .int .u64 v, .slice A m p, .slice B k q]] w fun e' w' => e' = .returned (.tuple #[.string ⟨#[]⟩, .int .i64 5]) ∧ Below w.heap.size w w' := by
  have C := Lib.hid (right_is g e l v A m p B k q o n false _ (hA.later (below1 w (.cells #[.int .u64 g, .int .u32 e, .int .u64 l, .int .u64 v, .slice A m p, .slice B k q] 26))) (hB.later (below1 w (.cells #[.int .u64 g, .int .u32 e, .int .u64 l, .int .u64 v, .slice A m p, .slice B k q] 26))) hm hg hl h)
  have B0 := Lib.hid (below1 w (.cells #[.int .u64 g, .int .u32 e, .int .u64 l, .int .u64 v, .slice A m p, .slice B k q] 26))
  go_enter Try.func10, Try.ntmps10
  go_wp2_with fail
  refine C.out.mono ?_
  rintro e' w1 ⟨rfl, hb⟩
  go_wp2_with fail
  go_ret2
  exact ⟨rfl, Wd.Ge.trans B0.out hb⟩

set_option maxHeartbeats 4000000 in
set_option maxRecDepth 100000 in
theorem encode_yes (g e l v : Int) (A : Option Addr) (m p : Nat) (B : Option Addr) (k q : Nat) (o n : List Int) (S : ByteArray) (w : World) (hA : Sl w A m o) (hB : Sl w B k n) (hf : Fits ⟨g, e, l, v, o, n⟩) (h : okC ⟨g, e, l, v, o, n⟩ = true) (hS : secL ⟨g, e, l, v, o, n⟩ = S.data.toList) :
    Calls Try.prog 10 #[.agg #[.int .u64 g, .int .u32 e, .int .u64 l, .int .u64 v, .slice A m p, .slice B k q]] w fun e' w' => e' = .returned (.tuple #[.string S, .int .i64 0]) ∧ Below w.heap.size w w' := by
  have h0 := inv0 g e l v A m p B k q 26 w hA hB
  obtain ⟨ho1, ho2, ho3⟩ := okC_o h
  simp only at ho1 ho2 ho3
  have hmo := hA.len
  have C := Lib.hid (fun W (hA : Sl W A m o) (hB : Sl W B k n) => right_is g e l v A m p B k q o n true W hA hB (by unfold maxLen; omega) hf.g0 hf.l0 h)
  obtain ⟨b, Hb⟩ : ∃ T : ByteArray, Hid (bodyL ⟨g, e, l, v, o, n⟩ = T.data.toList) := ⟨⟨(bodyL ⟨g, e, l, v, o, n⟩).toArray⟩, Lib.hid (by simp)⟩
  have D := Lib.hid (fun W (hA : Sl W A m o) (hB : Sl W B k n) => body_any g e l v A m p B k q o n b W hA hB hf h Hb.out)
  obtain ⟨g0, g1, e0, e1, l0, l1, v0, v1⟩ := hf
  simp only at g0 g1 e0 e1 l0 l1 v0 v1
  obtain ⟨M, HM⟩ : ∃ M : Int, Hid (((Crc.more 0 b.data.toList : Nat) : Int) = M) := ⟨_, rfl⟩
  have M0 : 0 ≤ M := by rw [← HM.out]; omega
  have M1 : M < 4294967296 := by
    have := Crc.more_lt b.data.toList (s := 0) (by omega)
    rw [← HM.out]; omega
  obtain ⟨T0, H0⟩ : ∃ T : ByteArray, Hid ((⟨(putL g.toNat (clampN 8)).toArray⟩ : ByteArray) = T) := ⟨_, rfl⟩
  obtain ⟨T1, H1⟩ : ∃ T : ByteArray, Hid ((⟨(putL M.toNat (clampN 4)).toArray⟩ : ByteArray) = T) := ⟨_, rfl⟩
  have zb : b.size = 116 := by rw [Go.Lib.size_eq, ← Hb.out]; exact bodyL_len h
  have z0 : T0.size = 8 := by rw [← H0.out]; exact put_size _ _
  have z1 : T1.size = 4 := by rw [← H1.out]; exact put_size _ _
  obtain ⟨U1, J1⟩ : ∃ U, b ++ T1 = U := ⟨_, rfl⟩
  have y1 : U1.size = 120 := by rw [← J1, ByteArray.size_append]; omega
  have JS : U1 ++ T0 = S := by
    refine app_is ?_
    rw [← J1, ByteArray.data_append, Array.toList_append, ← Hb.out, ← H0.out, ← H1.out, ← hS, secL, ← HM.out, ← Hb.out, Int.toNat_natCast]
    rfl
  have q1 : ¬ 9223372036854775807 < b.size + T1.size := by omega
  have q2 : ¬ 9223372036854775807 < U1.size + T0.size := by omega
  have hbs : b.size ≤ maxLen := by unfold maxLen; omega
  clear ho1 ho2 ho3 hmo zb z0 z1 y1 hS h
  go_enter Try.func10, Try.ntmps10
  go_wp2_with fail
  refine (C.out _ h0.sa h0.sb).mono ?_
  rintro e' w1 ⟨rfl, hb1⟩
  have h1 := h0.later hb1
  obtain ⟨gg, c0, c1, c2, c3, c4, c5⟩ := h1.L
  go_wp2_with fail
  refine (D.out _ h1.sa h1.sb).mono ?_
  rintro e' w2 ⟨rfl, hb2⟩
  have h2 := h1.later hb2
  clear c0 c1 c2 c3 c4 c5 h1 hb1 hb2 h0
  go_wp2_with fail
  have hne : Nonempty (In (InvC w w.heap.size g e l v A m p B k q o n)) := ⟨⟨_, h2⟩⟩
  have F0 : ∀ j : In (InvC w w.heap.size g e l v A m p B k q o n), j.W.cell? ⟨w.heap.size, 0, none⟩ = some (.int .u64 g) := fun j => j.h.L.c0
  refine region_class (InvC w w.heap.size g e l v A m p B k q o n) (by kernel_rfl) (by kernel_rfl) h2.drawn ?_
  repeat (go_big_quiet_step (first
    | (go_at_call 25; with_reducible exact class_call _ (fun hi => inv_ge hi (sum_is b M _ hbs HM.out)))
    | (go_at_call 24; with_reducible exact class_call _ (fun hi => inv_ge hi (put_at M 4 T1 _ M0 (by omega) H1.out)))
    | (go_at_call 24; with_reducible exact class_call _ (fun hi => inv_ge hi (put_at g 8 T0 _ g0 g1 H0.out)))))
  refine wpQuiet_nil ?_
  rintro _ ⟨j, rfl⟩
  go_wp2_with fail
  go_ret2
  exact ⟨rfl, j.h.b⟩

end Go.Proofs.Ytdnkhjikfdalbaa
