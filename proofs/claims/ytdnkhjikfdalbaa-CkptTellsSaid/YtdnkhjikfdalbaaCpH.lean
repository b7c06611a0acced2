/- The contract of the statements' own fixed: the calls whose answers the document fixes have these answers; no memory that was there is changed. -/
import Derived.Test.YtdnkhjikfdalbaaCpG
import Derived.Test.YtdnkhjikfdalbaaCpL
namespace Go.Proofs.Ytdnkhjikfdalbaa
open Go.RowKit Go.Lib Wd Cr
set_option linter.unusedVariables false

theorem sl1 {W : World} {b : Nat} {t : TypeId} {x : Int} (h : Blk W b t #[.int .i64 x]) : Sl W (some ⟨b, 0, none⟩) 1 [x] := by
  refine ⟨rfl, fun _ => ⟨b, 0, rfl, h.lt, fun j hj => ?_⟩⟩
  obtain rfl : j = 0 := by omega
  exact h.cell 0
theorem sl2 {W : World} {b : Nat} {t : TypeId} {x y : Int} (h : Blk W b t #[.int .i64 x, .int .i64 y]) : Sl W (some ⟨b, 0, none⟩) 2 [x, y] := by
  refine ⟨rfl, fun _ => ⟨b, 0, rfl, h.lt, fun j hj => ?_⟩⟩
  rcases (by omega : j = 0 ∨ j = 1) with rfl | rfl
  · exact h.cell 0
  · exact h.cell 1
/-- A checkpoint in memory, with its lists. -/
structure Item (W : World) (b : Nat) (g e l v : Int) (A : Option Addr) (m p : Nat) (B : Option Addr) (k q : Nat) (o n : List Int) : Prop where
  K : Blk W b 26 (csC g e l v A m p B k q)
  sa : Sl W A m o
  sb : Sl W B k n
theorem Item.later {W W' : World} {b : Nat} {g e l v : Int} {A : Option Addr} {m p : Nat} {B : Option Addr} {k q : Nat} {o n : List Int} (h : Item W b g e l v A m p B k q o n) (hb : Below W.heap.size W W') : Item W' b g e l v A m p B k q o n := ⟨h.K.later hb, h.sa.later hb, h.sb.later hb⟩

def fixC : Chk := ⟨1, 1, 1, 0, [0], [0]⟩
def fixD : Chk := ⟨2, 1, 9, 4, [3, 0], [30, 2]⟩
theorem fixC_ok : okC fixC = true := by decide
theorem fixD_ok : okC fixD = true := by decide
theorem fixC_fits : Fits fixC := by constructor <;> decide
theorem fixD_fits : Fits fixD := by constructor <;> decide
theorem fix_byte (c : Chk) (S : ByteArray) (HS : secL c = S.data.toList) (j x : Nat) (hx : byteAt (secL c) j = x) (h : j < S.size) : (S[j]'h).toNat = x := by
  rw [R1.byte_get, ← HS, hx]
theorem notlen {l : List UInt8} (h : l.length ≠ 128) : isSec l = false := by
  cases e : isSec l
  · rfl
  · exact absurd (isSec_len e) h
theorem notzero {l : List UInt8} (h : (cutC l).g = 0) : isSec l = false := by
  cases e : isSec l
  · rfl
  · exact absurd h ((okC_iff _).1 ((isSec_iff l).1 e).1).1.1
theorem dec_sec {c : Chk} {S : ByteArray} (hf : Fits c) (h : okC c = true) (HS : secL c = S.data.toList) : decC S.data.toList = c ∧ decE S.data.toList = 0 := by
  rw [← HS, (dec_yes (isSec_secL hf h)).1, (dec_yes (isSec_secL hf h)).2, cutC_secL hf h]
  exact ⟨rfl, rfl⟩
theorem dec_zero : decC (zeroTo 128).data.toList = zeroC ∧ decE (zeroTo 128).data.toList = 5 := dec_no (notzero (by kernel_rfl))
theorem dec_nil : decC (⟨#[]⟩ : ByteArray).data.toList = zeroC ∧ decE (⟨#[]⟩ : ByteArray).data.toList = 5 := dec_no (notlen (by simp))
/-- While fixed's last words are said. -/
structure FxC (w : World) (b3 b5 b6 : Nat) (A3 : Option Addr) (m3 p3 : Nat) (B3 : Option Addr) (k3 q3 : Nat) (W : World) : Prop where
  b : Below w.heap.size w W
  I : Item W (w.heap.size + 1 + 1) 1 1 1 0 (some ⟨w.heap.size, 0, none⟩) 1 1 (some ⟨w.heap.size + 1, 0, none⟩) 1 1 [0] [0]
  J : Item W (w.heap.size + 1 + 1 + 1 + 1 + 1) 2 1 9 4 (some ⟨w.heap.size + 1 + 1 + 1, 0, none⟩) 2 2 (some ⟨w.heap.size + 1 + 1 + 1 + 1, 0, none⟩) 2 2 [3, 0] [30, 2]
  X : Item W b3 2 1 9 4 A3 m3 p3 B3 k3 q3 [3, 0] [30, 2]
  l5 : b5 < W.heap.size
  c5 : W.cell? ⟨b5, 0, none⟩ = some (.int .u64 2)
  l6 : b6 < W.heap.size
  c6 : W.cell? ⟨b6, 0, none⟩ = some (.int .u64 1)
theorem FxC.later {w W W' : World} {b3 b5 b6 : Nat} {A3 : Option Addr} {m3 p3 : Nat} {B3 : Option Addr} {k3 q3 : Nat} (h : FxC w b3 b5 b6 A3 m3 p3 B3 k3 q3 W) (hb : Below W.heap.size W W') : FxC w b3 b5 b6 A3 m3 p3 B3 k3 q3 W' :=
  ⟨Wd.Ge.trans h.b hb, h.I.later hb, h.J.later hb, h.X.later hb, Nat.lt_of_lt_of_le h.l5 hb.size, ((bcell hb).1 _ _ h.l5).trans h.c5, Nat.lt_of_lt_of_le h.l6 hb.size, ((bcell hb).1 _ _ h.l6).trans h.c6⟩
theorem fx_ge {w W : World} {b3 b5 b6 : Nat} {A3 : Option Addr} {m3 p3 : Nat} {B3 : Option Addr} {k3 q3 : Nat} {P : Program} {f : FuncId} {args : Array Value} {x : Value} (h : FxC w b3 b5 b6 A3 m3 p3 B3 k3 q3 W) (c : Calls P f args W fun e' w' => e' = .returned x ∧ Below W.heap.size W w') :
    Calls P f args W fun e' w' => e' = .returned x ∧ FxC w b3 b5 b6 A3 m3 p3 B3 k3 q3 w' :=
  c.mono fun _ _ ⟨he, hb⟩ => ⟨he, h.later hb⟩

set_option maxHeartbeats 16000000 in
set_option maxRecDepth 100000 in
theorem fixed_any (w : World) : Calls Try.prog 20 #[] w fun e' w' => e' = .returned (.bool true) ∧ Below w.heap.size w w' := by
  obtain ⟨S, HS⟩ : ∃ S : ByteArray, Hid (secL fixC = S.data.toList) := ⟨⟨(secL fixC).toArray⟩, Lib.hid (by simp)⟩
  obtain ⟨T, HT⟩ : ∃ S : ByteArray, Hid (secL fixD = S.data.toList) := ⟨⟨(secL fixD).toArray⟩, Lib.hid (by simp)⟩
  have zS : S.size = 128 := by rw [Go.Lib.size_eq, ← HS.out]; exact secL_len fixC_ok
  have zT : T.size = 128 := by rw [Go.Lib.size_eq, ← HT.out]; exact secL_len fixD_ok
  have ziS : (S.size : Int) = 128 := by omega
  have ziT : (T.size : Int) = 128 := by omega
  have b0 := fix_byte fixC S HS.out 0 1 (by kernel_rfl) (by omega)
  have b8 := fix_byte fixC S HS.out 8 1 (by kernel_rfl) (by omega)
  have b12 := fix_byte fixC S HS.out 12 1 (by kernel_rfl) (by omega)
  have b28 := fix_byte fixC S HS.out 28 1 (by kernel_rfl) (by omega)
  have b120 := fix_byte fixC S HS.out 120 1 (by kernel_rfl) (by omega)
  have t29 := fix_byte fixD T HT.out 29 3 (by kernel_rfl) (by omega)
  have t30 := fix_byte fixD T HT.out 30 30 (by kernel_rfl) (by omega)
  have dS := Lib.hid (dec_sec fixC_fits fixC_ok HS.out)
  have dT := Lib.hid (dec_sec fixD_fits fixD_ok HT.out)
  have iS : isSec S.data.toList = true := by rw [← HS.out]; exact isSec_secL fixC_fits fixC_ok
  have iT : isSec T.data.toList = true := by rw [← HT.out]; exact isSec_secL fixD_fits fixD_ok
  have e1 : Hid (bestC S.data.toList T.data.toList = fixD ∧ bestI S.data.toList T.data.toList = 1 ∧ bestE S.data.toList T.data.toList = 0) := by
    refine Lib.hid ?_
    unfold bestC bestI
    rw [dS.out.1, dT.out.1, bestE_yes (by rw [iS]; simp), if_pos (by decide), if_pos (by decide)]
    exact ⟨rfl, rfl, rfl⟩
  have e2 : Hid (bestC S.data.toList (zeroTo 128).data.toList = fixC ∧ bestI S.data.toList (zeroTo 128).data.toList = 0 ∧ bestE S.data.toList (zeroTo 128).data.toList = 0) := by
    refine Lib.hid ?_
    unfold bestC bestI
    rw [dS.out.1, dec_zero.1, bestE_yes (by rw [iS]; simp), if_neg (by decide), if_neg (by decide)]
    exact ⟨rfl, rfl, rfl⟩
  have e3 : Hid (bestC (⟨#[]⟩ : ByteArray).data.toList (zeroTo 128).data.toList = zeroC ∧ bestI (⟨#[]⟩ : ByteArray).data.toList (zeroTo 128).data.toList = 0 ∧ bestE (⟨#[]⟩ : ByteArray).data.toList (zeroTo 128).data.toList = 5) := by
    obtain ⟨h1, h2, h3⟩ := bestE_no (a := (⟨#[]⟩ : ByteArray).data.toList) (b := (zeroTo 128).data.toList) (notlen (by simp)) (notzero (by kernel_rfl))
    exact Lib.hid ⟨h3, h2, h1⟩
  have mS : S.size ≤ maxLen := by unfold maxLen; omega
  have mT : T.size ≤ maxLen := by unfold maxLen; omega
  have C1 := Lib.hid (fun W hA hB => encode_yes 1 1 1 0 (some ⟨w.heap.size, 0, none⟩) 1 1 (some ⟨w.heap.size + 1, 0, none⟩) 1 1 [0] [0] S W hA hB fixC_fits fixC_ok HS.out)
  have C2 := Lib.hid (fun W hA hB => encode_yes 2 1 9 4 (some ⟨w.heap.size + 1 + 1 + 1, 0, none⟩) 2 2 (some ⟨w.heap.size + 1 + 1 + 1 + 1, 0, none⟩) 2 2 [3, 0] [30, 2] T W hA hB fixD_fits fixD_ok HT.out)
  have C3 := Lib.hid (fun w => decode_any T w mT)
  have C4 := Lib.hid (fun w => decode_any ⟨#[]⟩ w (by decide))
  have C5 := Lib.hid (fun w => best_any S T w mS mT)
  have C6 := Lib.hid (fun w => best_any S (zeroTo 128) w mS (by rw [zeroTo_size]; decide))
  have C7 := Lib.hid (fun w => best_any ⟨#[]⟩ (zeroTo 128) w (by decide) (by rw [zeroTo_size]; decide))
  obtain ⟨W0, E0⟩ : ∃ W0, Hid (((((((w.alloc (.cells #[.int .i64 0] 3)).alloc (.cells #[.int .i64 0] 3)).alloc (.cells #[.int .u64 1, .int .u32 1, .int .u64 1, .int .u64 0, .slice (some ⟨w.heap.size, 0, none⟩) 1 1, .slice (some ⟨w.heap.size + 1, 0, none⟩) 1 1] 26)).alloc (.cells #[.int .i64 3, .int .i64 0] 3)).alloc (.cells #[.int .i64 30, .int .i64 2] 3)).alloc (.cells #[.int .u64 2, .int .u32 1, .int .u64 9, .int .u64 4, .slice (some ⟨w.heap.size + 1 + 1 + 1, 0, none⟩) 2 2, .slice (some ⟨w.heap.size + 1 + 1 + 1 + 1, 0, none⟩) 2 2] 26)) = W0) := ⟨_, rfl⟩
  have I : Item W0 (w.heap.size + 1 + 1) 1 1 1 0 (some ⟨w.heap.size, 0, none⟩) 1 1 (some ⟨w.heap.size + 1, 0, none⟩) 1 1 [0] [0] := by
    rw [← E0.out]
    exact ⟨((((blk_new ((w.alloc (.cells #[.int .i64 0] 3)).alloc (.cells #[.int .i64 0] 3)) 26 _ (w.heap.size + 1 + 1) (by simp)).later (below1 _ _)).later (below1 _ _)).later (below1 _ _)), sl1 ((((((blk_new w 3 _ (w.heap.size) (by simp)).later (below1 _ _)).later (below1 _ _)).later (below1 _ _)).later (below1 _ _)).later (below1 _ _)), sl1 (((((blk_new (w.alloc (.cells #[.int .i64 0] 3)) 3 _ (w.heap.size + 1) (by simp)).later (below1 _ _)).later (below1 _ _)).later (below1 _ _)).later (below1 _ _))⟩
  have J : Item W0 (w.heap.size + 1 + 1 + 1 + 1 + 1) 2 1 9 4 (some ⟨w.heap.size + 1 + 1 + 1, 0, none⟩) 2 2 (some ⟨w.heap.size + 1 + 1 + 1 + 1, 0, none⟩) 2 2 [3, 0] [30, 2] := by
    rw [← E0.out]
    exact ⟨(blk_new (((((w.alloc (.cells #[.int .i64 0] 3)).alloc (.cells #[.int .i64 0] 3)).alloc (.cells #[.int .u64 1, .int .u32 1, .int .u64 1, .int .u64 0, .slice (some ⟨w.heap.size, 0, none⟩) 1 1, .slice (some ⟨w.heap.size + 1, 0, none⟩) 1 1] 26)).alloc (.cells #[.int .i64 3, .int .i64 0] 3)).alloc (.cells #[.int .i64 30, .int .i64 2] 3)) 26 _ (w.heap.size + 1 + 1 + 1 + 1 + 1) (by simp)), sl2 (((blk_new (((w.alloc (.cells #[.int .i64 0] 3)).alloc (.cells #[.int .i64 0] 3)).alloc (.cells #[.int .u64 1, .int .u32 1, .int .u64 1, .int .u64 0, .slice (some ⟨w.heap.size, 0, none⟩) 1 1, .slice (some ⟨w.heap.size + 1, 0, none⟩) 1 1] 26)) 3 _ (w.heap.size + 1 + 1 + 1) (by simp)).later (below1 _ _)).later (below1 _ _)), sl2 ((blk_new ((((w.alloc (.cells #[.int .i64 0] 3)).alloc (.cells #[.int .i64 0] 3)).alloc (.cells #[.int .u64 1, .int .u32 1, .int .u64 1, .int .u64 0, .slice (some ⟨w.heap.size, 0, none⟩) 1 1, .slice (some ⟨w.heap.size + 1, 0, none⟩) 1 1] 26)).alloc (.cells #[.int .i64 3, .int .i64 0] 3)) 3 _ (w.heap.size + 1 + 1 + 1 + 1) (by simp)).later (below1 _ _))⟩
  have B : Below w.heap.size w W0 := by
    rw [← E0.out]
    exact Wd.Ge.trans (Wd.Ge.trans (Wd.Ge.trans (Wd.Ge.trans (Wd.Ge.trans (below1 _ _) (below1 _ _)) (below1 _ _)) (below1 _ _)) (below1 _ _)) (below1 _ _)
  go_enter Try.func20, Try.ntmps20
  go_upto_region 3 with fail
  rw [E0.out]
  clear E0
  have HK := Lib.hid I.K
  go_wp2_with (with_reducible refine load_c rfl (.tmp 1) rfl (w.heap.size + 1 + 1) rfl HK.out ?_)
  refine (C1.out _ I.sa I.sb).mono ?_
  rintro e' w1 ⟨rfl, hb⟩
  replace I := I.later hb
  replace J := J.later hb
  replace B := Wd.Ge.trans B hb
  clear hb
  have HJ := Lib.hid J.K
  clear HK
  go_wp2_with (with_reducible refine load_c rfl (.tmp 2) rfl (w.heap.size + 1 + 1 + 1 + 1 + 1) rfl HJ.out ?_)
  refine (C2.out _ J.sa J.sb).mono ?_
  rintro e' w2 ⟨rfl, hb⟩
  replace I := I.later hb
  replace J := J.later hb
  replace B := Wd.Ge.trans B hb
  clear hb
  clear HJ C1 C2
  go_wp2_with fail
  refine (C3.out _).mono ?_
  rintro e' u3 ⟨hb, x, rfl, hx⟩
  replace I := I.later hb
  replace J := J.later hb
  replace B := Wd.Ge.trans B hb
  clear hb
  rw [dT.out.1] at hx
  obtain ⟨A3, m3, p3, B3, k3, q3, rfl, sa3, sb3, _⟩ := hx
  rw [dT.out.2]
  simp only [fixD] at sa3 sb3 ⊢
  have F3 : Blk (u3.alloc (.cells #[.int .u64 0, .int .u32 0, .int .u64 0, .int .u64 0, .slice none 0 0, .slice none 0 0] 26)) u3.heap.size 26 (csC 0 0 0 0 none 0 0 none 0 0) := Blk.new u3 26 _
  go_upto_region 8 with (with_reducible refine store_c rfl (.tmp 7) (.tmp 49) rfl u3.heap.size rfl rfl F3 ?_; rw [World.setRow_alloc_new])
  have N3 : Blk (u3.alloc (.cells (csC 2 1 9 4 A3 m3 p3 B3 k3 q3) 26)) u3.heap.size 26 (csC 2 1 9 4 A3 m3 p3 B3 k3 q3) := Blk.new _ _ _
  have hb := below1 u3 (.cells (csC 2 1 9 4 A3 m3 p3 B3 k3 q3) 26)
  replace sa3 := sa3.later hb
  replace sb3 := sb3.later hb
  replace I := I.later hb
  replace J := J.later hb
  replace B := Wd.Ge.trans B hb
  clear hb
  clear F3
  generalize u3.alloc (.cells (csC 2 1 9 4 A3 m3 p3 B3 k3 q3) 26) = v3 at *
  generalize u3.heap.size = b3 at *
  go_wp2_with fail
  refine (C4.out _).mono ?_
  rintro e' u4 ⟨hb, x, rfl, hx⟩
  replace I := I.later hb
  replace J := J.later hb
  replace N3 := N3.later hb
  replace sa3 := sa3.later hb
  replace sb3 := sb3.later hb
  replace B := Wd.Ge.trans B hb
  clear hb
  rw [dec_nil.1] at hx
  obtain ⟨A4, m4, p4, B4, k4, q4, rfl, sa4, sb4, _⟩ := hx
  rw [dec_nil.2]
  simp only [zeroC] at sa4 sb4 ⊢
  have F4 : Blk (u4.alloc (.cells #[.int .u64 0, .int .u32 0, .int .u64 0, .int .u64 0, .slice none 0 0, .slice none 0 0] 26)) u4.heap.size 26 (csC 0 0 0 0 none 0 0 none 0 0) := Blk.new u4 26 _
  go_upto_region 9 with (with_reducible refine store_c rfl (.tmp 9) (.tmp 53) rfl u4.heap.size rfl rfl F4 ?_; rw [World.setRow_alloc_new])
  have N4 : Blk (u4.alloc (.cells (csC 0 0 0 0 A4 m4 p4 B4 k4 q4) 26)) u4.heap.size 26 (csC 0 0 0 0 A4 m4 p4 B4 k4 q4) := Blk.new _ _ _
  have hb := below1 u4 (.cells (csC 0 0 0 0 A4 m4 p4 B4 k4 q4) 26)
  replace sa4 := sa4.later hb
  replace sb4 := sb4.later hb
  replace I := I.later hb
  replace J := J.later hb
  replace N3 := N3.later hb
  replace sa3 := sa3.later hb
  replace sb3 := sb3.later hb
  replace B := Wd.Ge.trans B hb
  clear hb
  clear F4
  generalize u4.alloc (.cells (csC 0 0 0 0 A4 m4 p4 B4 k4 q4) 26) = v4 at *
  generalize u4.heap.size = b4 at *
  clear N4 sa4 sb4
  go_wp2_with fail
  refine (C5.out _).mono ?_
  rintro e' u5 ⟨hb, x, rfl, hx⟩
  replace I := I.later hb
  replace J := J.later hb
  replace N3 := N3.later hb
  replace sa3 := sa3.later hb
  replace sb3 := sb3.later hb
  replace B := Wd.Ge.trans B hb
  clear hb
  rw [e1.out.1] at hx
  obtain ⟨A5, m5, p5, B5, k5, q5, rfl, sa5, sb5, _⟩ := hx
  rw [e1.out.2.1, e1.out.2.2]
  simp only [fixD] at sa5 sb5 ⊢
  have F5 : Blk (u5.alloc (.cells #[.int .u64 0, .int .u32 0, .int .u64 0, .int .u64 0, .slice none 0 0, .slice none 0 0] 26)) u5.heap.size 26 (csC 0 0 0 0 none 0 0 none 0 0) := Blk.new u5 26 _
  go_upto_region 10 with (with_reducible refine store_c rfl (.tmp 11) (.tmp 59) rfl u5.heap.size rfl rfl F5 ?_; rw [World.setRow_alloc_new])
  have N5 : Blk (u5.alloc (.cells (csC 2 1 9 4 A5 m5 p5 B5 k5 q5) 26)) u5.heap.size 26 (csC 2 1 9 4 A5 m5 p5 B5 k5 q5) := Blk.new _ _ _
  have hb := below1 u5 (.cells (csC 2 1 9 4 A5 m5 p5 B5 k5 q5) 26)
  replace sa5 := sa5.later hb
  replace sb5 := sb5.later hb
  replace I := I.later hb
  replace J := J.later hb
  replace N3 := N3.later hb
  replace sa3 := sa3.later hb
  replace sb3 := sb3.later hb
  replace B := Wd.Ge.trans B hb
  clear hb
  clear F5
  generalize u5.alloc (.cells (csC 2 1 9 4 A5 m5 p5 B5 k5 q5) 26) = v5 at *
  generalize u5.heap.size = b5 at *
  clear sa5 sb5
  go_wp2_with fail
  refine (zero_any _).mono ?_
  rintro e' w' ⟨rfl, rfl⟩
  go_wp2_with fail
  refine (C6.out _).mono ?_
  rintro e' u6 ⟨hb, x, rfl, hx⟩
  replace I := I.later hb
  replace J := J.later hb
  replace N3 := N3.later hb
  replace sa3 := sa3.later hb
  replace sb3 := sb3.later hb
  replace N5 := N5.later hb
  replace B := Wd.Ge.trans B hb
  clear hb
  rw [e2.out.1] at hx
  obtain ⟨A6, m6, p6, B6, k6, q6, rfl, sa6, sb6, _⟩ := hx
  rw [e2.out.2.1, e2.out.2.2]
  simp only [fixC] at sa6 sb6 ⊢
  have F6 : Blk (u6.alloc (.cells #[.int .u64 0, .int .u32 0, .int .u64 0, .int .u64 0, .slice none 0 0, .slice none 0 0] 26)) u6.heap.size 26 (csC 0 0 0 0 none 0 0 none 0 0) := Blk.new u6 26 _
  go_upto_region 11 with (with_reducible refine store_c rfl (.tmp 14) (.tmp 66) rfl u6.heap.size rfl rfl F6 ?_; rw [World.setRow_alloc_new])
  have N6 : Blk (u6.alloc (.cells (csC 1 1 1 0 A6 m6 p6 B6 k6 q6) 26)) u6.heap.size 26 (csC 1 1 1 0 A6 m6 p6 B6 k6 q6) := Blk.new _ _ _
  have hb := below1 u6 (.cells (csC 1 1 1 0 A6 m6 p6 B6 k6 q6) 26)
  replace sa6 := sa6.later hb
  replace sb6 := sb6.later hb
  replace I := I.later hb
  replace J := J.later hb
  replace N3 := N3.later hb
  replace sa3 := sa3.later hb
  replace sb3 := sb3.later hb
  replace N5 := N5.later hb
  replace B := Wd.Ge.trans B hb
  clear hb
  clear F6
  generalize u6.alloc (.cells (csC 1 1 1 0 A6 m6 p6 B6 k6 q6) 26) = v6 at *
  generalize u6.heap.size = b6 at *
  clear sa6 sb6
  go_wp2_with fail
  refine (zero_any _).mono ?_
  rintro e' w' ⟨rfl, rfl⟩
  go_wp2_with fail
  refine (C7.out _).mono ?_
  rintro e' u7 ⟨hb, x, rfl, hx⟩
  replace I := I.later hb
  replace J := J.later hb
  replace N3 := N3.later hb
  replace sa3 := sa3.later hb
  replace sb3 := sb3.later hb
  replace N5 := N5.later hb
  replace N6 := N6.later hb
  replace B := Wd.Ge.trans B hb
  clear hb
  rw [e3.out.1] at hx
  obtain ⟨A7, m7, p7, B7, k7, q7, rfl, sa7, sb7, _⟩ := hx
  rw [e3.out.2.1, e3.out.2.2]
  simp only [zeroC] at sa7 sb7 ⊢
  have F7 : Blk (u7.alloc (.cells #[.int .u64 0, .int .u32 0, .int .u64 0, .int .u64 0, .slice none 0 0, .slice none 0 0] 26)) u7.heap.size 26 (csC 0 0 0 0 none 0 0 none 0 0) := Blk.new u7 26 _
  go_upto_region 12 with (with_reducible refine store_c rfl (.tmp 17) (.tmp 72) rfl u7.heap.size rfl rfl F7 ?_; rw [World.setRow_alloc_new])
  have N7 : Blk (u7.alloc (.cells (csC 0 0 0 0 A7 m7 p7 B7 k7 q7) 26)) u7.heap.size 26 (csC 0 0 0 0 A7 m7 p7 B7 k7 q7) := Blk.new _ _ _
  have hb := below1 u7 (.cells (csC 0 0 0 0 A7 m7 p7 B7 k7 q7) 26)
  replace sa7 := sa7.later hb
  replace sb7 := sb7.later hb
  replace I := I.later hb
  replace J := J.later hb
  replace N3 := N3.later hb
  replace sa3 := sa3.later hb
  replace sb3 := sb3.later hb
  replace N5 := N5.later hb
  replace N6 := N6.later hb
  replace B := Wd.Ge.trans B hb
  clear hb
  clear F7
  generalize u7.alloc (.cells (csC 0 0 0 0 A7 m7 p7 B7 k7 q7) 26) = v7 at *
  generalize u7.heap.size = b7 at *
  clear sa7 sb7 N7
  have hA8 : Sl ((v7.alloc (.cells #[.int .i64 0, .int .i64 0] 3)).alloc (.cells #[.int .i64 0, .int .i64 0] 3)) (some ⟨v7.heap.size, 0, none⟩) 2 [0, 0] := sl2 ((blk_new v7 3 _ v7.heap.size rfl).later (below1 _ (.cells #[.int .i64 0, .int .i64 0] 3)))
  have hB8 : Sl ((v7.alloc (.cells #[.int .i64 0, .int .i64 0] 3)).alloc (.cells #[.int .i64 0, .int .i64 0] 3)) (some ⟨v7.heap.size + 1, 0, none⟩) 2 [0, 0] := sl2 (blk_new (v7.alloc (.cells #[.int .i64 0, .int .i64 0] 3)) 3 _ (v7.heap.size + 1) (by simp))
  have hb := Wd.Ge.trans (below1 v7 (.cells #[.int .i64 0, .int .i64 0] 3)) (below1 _ (.cells #[.int .i64 0, .int .i64 0] 3))
  replace I := I.later hb
  replace J := J.later hb
  replace N3 := N3.later hb
  replace sa3 := sa3.later hb
  replace sb3 := sb3.later hb
  replace N5 := N5.later hb
  replace N6 := N6.later hb
  replace B := Wd.Ge.trans B hb
  clear hb
  have C8 := Lib.hid (encode_no 1 0 1 0 (some ⟨v7.heap.size, 0, none⟩) 2 2 (some ⟨v7.heap.size + 1, 0, none⟩) 2 2 [0, 0] [0, 0] _ hA8 hB8 (by decide) (by decide) (by decide) (by decide))
  clear hA8 hB8
  go_wp2_with fail
  refine C8.out.mono ?_
  rintro e' w8 ⟨rfl, hb⟩
  replace I := I.later hb
  replace J := J.later hb
  replace N3 := N3.later hb
  replace sa3 := sa3.later hb
  replace sb3 := sb3.later hb
  replace N5 := N5.later hb
  replace N6 := N6.later hb
  replace B := Wd.Ge.trans B hb
  clear hb
  clear C8 C3 C4 C5 C6 C7 dS dT e1 e2 e3 iS iT mS mT
  have m3l : m3 ≤ maxLen := by rw [sa3.len]; decide
  have k3l : k3 ≤ maxLen := by rw [sb3.len]; decide
  have X : FxC w b3 b5 b6 A3 m3 p3 B3 k3 q3 w8 := ⟨B, I, J, ⟨N3, sa3, sb3⟩, N5.lt, N5.cell 0, N6.lt, N6.cell 0⟩
  clear I J N3 sa3 sb3 N5 N6 B
  have hne : Nonempty (In (FxC w b3 b5 b6 A3 m3 p3 B3 k3 q3)) := ⟨⟨_, X⟩⟩
  have fx0 : ∀ j : In (FxC w b3 b5 b6 A3 m3 p3 B3 k3 q3), j.W.cell? ⟨b3, 0, none⟩ = some (.int .u64 2) := fun j => (blk_lies j.h.X.K).c0
  have fx1 : ∀ j : In (FxC w b3 b5 b6 A3 m3 p3 B3 k3 q3), j.W.cell? ⟨b3, 1, none⟩ = some (.int .u32 1) := fun j => (blk_lies j.h.X.K).c1
  have fx2 : ∀ j : In (FxC w b3 b5 b6 A3 m3 p3 B3 k3 q3), j.W.cell? ⟨b3, 2, none⟩ = some (.int .u64 9) := fun j => (blk_lies j.h.X.K).c2
  have fx3 : ∀ j : In (FxC w b3 b5 b6 A3 m3 p3 B3 k3 q3), j.W.cell? ⟨b3, 3, none⟩ = some (.int .u64 4) := fun j => (blk_lies j.h.X.K).c3
  have fx4 : ∀ j : In (FxC w b3 b5 b6 A3 m3 p3 B3 k3 q3), j.W.cell? ⟨b3, 4, none⟩ = some (.slice A3 m3 p3) := fun j => (blk_lies j.h.X.K).c4
  have fx5 : ∀ j : In (FxC w b3 b5 b6 A3 m3 p3 B3 k3 q3), j.W.cell? ⟨b3, 5, none⟩ = some (.slice B3 k3 q3) := fun j => (blk_lies j.h.X.K).c5
  have fd0 : ∀ j : In (FxC w b3 b5 b6 A3 m3 p3 B3 k3 q3), j.W.cell? ⟨w.heap.size + 1 + 1 + 1 + 1 + 1, 0, none⟩ = some (.int .u64 2) := fun j => (blk_lies j.h.J.K).c0
  have fd1 : ∀ j : In (FxC w b3 b5 b6 A3 m3 p3 B3 k3 q3), j.W.cell? ⟨w.heap.size + 1 + 1 + 1 + 1 + 1, 1, none⟩ = some (.int .u32 1) := fun j => (blk_lies j.h.J.K).c1
  have fd2 : ∀ j : In (FxC w b3 b5 b6 A3 m3 p3 B3 k3 q3), j.W.cell? ⟨w.heap.size + 1 + 1 + 1 + 1 + 1, 2, none⟩ = some (.int .u64 9) := fun j => (blk_lies j.h.J.K).c2
  have fd3 : ∀ j : In (FxC w b3 b5 b6 A3 m3 p3 B3 k3 q3), j.W.cell? ⟨w.heap.size + 1 + 1 + 1 + 1 + 1, 3, none⟩ = some (.int .u64 4) := fun j => (blk_lies j.h.J.K).c3
  have fd4 : ∀ j : In (FxC w b3 b5 b6 A3 m3 p3 B3 k3 q3), j.W.cell? ⟨w.heap.size + 1 + 1 + 1 + 1 + 1, 4, none⟩ = some (.slice (some ⟨w.heap.size + 1 + 1 + 1, 0, none⟩) 2 2) := fun j => (blk_lies j.h.J.K).c4
  have fd5 : ∀ j : In (FxC w b3 b5 b6 A3 m3 p3 B3 k3 q3), j.W.cell? ⟨w.heap.size + 1 + 1 + 1 + 1 + 1, 5, none⟩ = some (.slice (some ⟨w.heap.size + 1 + 1 + 1 + 1, 0, none⟩) 2 2) := fun j => (blk_lies j.h.J.K).c5
  have fc0 : ∀ j : In (FxC w b3 b5 b6 A3 m3 p3 B3 k3 q3), j.W.cell? ⟨w.heap.size + 1 + 1, 0, none⟩ = some (.int .u64 1) := fun j => (blk_lies j.h.I.K).c0
  have fc1 : ∀ j : In (FxC w b3 b5 b6 A3 m3 p3 B3 k3 q3), j.W.cell? ⟨w.heap.size + 1 + 1, 1, none⟩ = some (.int .u32 1) := fun j => (blk_lies j.h.I.K).c1
  have fc2 : ∀ j : In (FxC w b3 b5 b6 A3 m3 p3 B3 k3 q3), j.W.cell? ⟨w.heap.size + 1 + 1, 2, none⟩ = some (.int .u64 1) := fun j => (blk_lies j.h.I.K).c2
  have fc3 : ∀ j : In (FxC w b3 b5 b6 A3 m3 p3 B3 k3 q3), j.W.cell? ⟨w.heap.size + 1 + 1, 3, none⟩ = some (.int .u64 0) := fun j => (blk_lies j.h.I.K).c3
  have fc4 : ∀ j : In (FxC w b3 b5 b6 A3 m3 p3 B3 k3 q3), j.W.cell? ⟨w.heap.size + 1 + 1, 4, none⟩ = some (.slice (some ⟨w.heap.size, 0, none⟩) 1 1) := fun j => (blk_lies j.h.I.K).c4
  have fc5 : ∀ j : In (FxC w b3 b5 b6 A3 m3 p3 B3 k3 q3), j.W.cell? ⟨w.heap.size + 1 + 1, 5, none⟩ = some (.slice (some ⟨w.heap.size + 1, 0, none⟩) 1 1) := fun j => (blk_lies j.h.I.K).c5
  have f5 : ∀ j : In (FxC w b3 b5 b6 A3 m3 p3 B3 k3 q3), j.W.cell? ⟨b5, 0, none⟩ = some (.int .u64 2) := fun j => j.h.c5
  have f6 : ∀ j : In (FxC w b3 b5 b6 A3 m3 p3 B3 k3 q3), j.W.cell? ⟨b6, 0, none⟩ = some (.int .u64 1) := fun j => j.h.c6
  have XX := Lib.hid X
  clear X
  have Q1 := Lib.hid (fun W hA hB => right_is 1 1 1 0 (some ⟨w.heap.size, 0, none⟩) 1 1 (some ⟨w.heap.size + 1, 0, none⟩) 1 1 [0] [0] true W hA hB (by decide) (by decide) (by decide) fixC_ok)
  have Q2 := Lib.hid (fun W => right_is 0 0 0 0 none 0 0 none 0 0 [] [] false W (Sl.nil _) (Sl.nil _) (by decide) (by decide) (by decide) (by decide))
  go_upto_region 13 with fail
  refine region_class (FxC w b3 b5 b6 A3 m3 p3 B3 k3 q3) (by kernel_rfl) ((congrArg (Region.lexB .any) (show _ = ops13 by kernel_rfl)).trans lex13) (XX.out.later (below_drawn _)) ?_
  dsimp only [List.append]
  repeat (go_big_quiet_step (first
    | (go_at_call 12; with_reducible exact class_call _ (fun hi => fx_ge hi (ref_any 2 1 9 4 A3 m3 p3 B3 k3 q3 _)))
    | (go_at_call 12; with_reducible exact class_call _ (fun hi => fx_ge hi (ref_any 2 1 9 4 (some ⟨w.heap.size + 1 + 1 + 1, 0, none⟩) 2 2 (some ⟨w.heap.size + 1 + 1 + 1 + 1, 0, none⟩) 2 2 _)))
    | (go_at_call 19; with_reducible exact class_call _ (fun hi => fx_ge hi (same_is 2 1 9 4 A3 m3 p3 B3 k3 q3 2 1 9 4 (some ⟨w.heap.size + 1 + 1 + 1, 0, none⟩) 2 2 (some ⟨w.heap.size + 1 + 1 + 1 + 1, 0, none⟩) 2 2 [3, 0] [30, 2] [3, 0] [30, 2] true _ hi.X.sa hi.X.sb hi.J.sa hi.J.sb m3l k3l (by decide))))
    | (go_at_call 17; with_reducible exact class_call _ (fun hi => fx_ge hi (Q1.out _ hi.I.sa hi.I.sb)))
    | (go_at_call 17; with_reducible exact class_call _ (fun hi => fx_ge hi (Q2.out _)))))
  refine wpQuiet_nil ?_
  rintro _ ⟨j, rfl⟩
  go_wp2_with fail
  go_ret
  exact ⟨rfl, j.h.b⟩

end Go.Proofs.Ytdnkhjikfdalbaa
