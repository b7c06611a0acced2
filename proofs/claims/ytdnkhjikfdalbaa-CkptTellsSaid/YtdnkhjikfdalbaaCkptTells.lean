/- For every checkpoint and every two texts the statement CkptTells about ckpt.Right, Encode, Decode and Best returns true, and changes nothing. Conditions: none. -/
import Derived.Test.YtdnkhjikfdalbaaCpP
import Derived.Test.YtdnkhjikfdalbaaCpO
import Derived.Test.YtdnkhjikfdalbaaCpU
import Derived.Deep.DeepCutAuto
import Derived.Deep.LoopGhost
import Derived.StillTailTactics
import Derived.WalkSmall
import Derived.ProofKit
import Derived.OpenShut
import Derived.ShutString
import Derived.SizedLaws
namespace Go.Proofs.Ytdnkhjikfdalbaa.ckptTells
open Go.ChangeShapes Go.WideShapes Go.ChangeAt Go.RowKit Go.Lib Wd Cr
open Go.ChangeMaps (open_string shut_string)
set_option linter.unusedVariables false

theorem own : ownKnob Try.prog.godebug = none := by kernel_rfl
theorem laid : laidOutB Try.prog = true := by kernel_rfl

/-- All old memory as it was; checkpoints' cells, of whichever type, and lists. -/
structure It6 (w : World) (L : List (Nat × TypeId × Array Value)) (M : List (Option Addr × Nat × List Int)) (W : World) : Prop where
  b : Below w.heap.size w W
  k : ∀ x ∈ L, Blk W x.1 x.2.1 x.2.2
  s : ∀ y ∈ M, Sl W y.1 y.2.1 y.2.2
section
variable {w W W' : World} {L : List (Nat × TypeId × Array Value)} {M : List (Option Addr × Nat × List Int)}
theorem It6.later (h : It6 w L M W) (hb : Below W.heap.size W W') : It6 w L M W' := ⟨Wd.Ge.trans h.b hb, fun x hx => (h.k x hx).later hb, fun y hy => (h.s y hy).later hb⟩
theorem It6.drawn (h : It6 w L M W) : It6 w L M { W with drawn := W.drawn + 1 } := h.later (below_drawn W)
theorem It6.at_ (h : It6 w L M W) {x : Nat × TypeId × Array Value} (i : Nat) (hi : L[i]? = some x) : Blk W x.1 x.2.1 x.2.2 := h.k x (List.mem_of_getElem? hi)
theorem It6.sl (h : It6 w L M W) {y : Option Addr × Nat × List Int} (i : Nat) (hi : M[i]? = some y) : Sl W y.1 y.2.1 y.2.2 := h.s y (List.mem_of_getElem? hi)
theorem It6.nil (h : Below w.heap.size w W) : It6 w [] [] W := ⟨h, (fun x hx => by cases hx), (fun y hy => by cases hy)⟩
theorem It6.cons (h : It6 w L M W) {b : Nat} {t : TypeId} {cs : Array Value} (K : Blk W b t cs) : It6 w ((b, t, cs) :: L) M W :=
  ⟨h.b, (fun x hx => by rcases List.mem_cons.1 hx with rfl | hx; exact K; exact h.k x hx), h.s⟩
theorem It6.scons (h : It6 w L M W) {A : Option Addr} {m : Nat} {o : List Int} (K : Sl W A m o) : It6 w L ((A, m, o) :: M) W :=
  ⟨h.b, h.k, fun x hx => by rcases List.mem_cons.1 hx with rfl | hx; exact K; exact h.s x hx⟩
theorem it6_ge {P : Program} {f : FuncId} {args : Array Value} {x : Value} (h : It6 w L M W) (c : Calls P f args W fun e' w' => e' = .returned x ∧ Below W.heap.size W w') :
    Calls P f args W fun e' w' => e' = .returned x ∧ It6 w L M w' :=
  c.mono fun _ _ ⟨he, hb⟩ => ⟨he, h.later hb⟩
end
theorem dec_lens (l : List UInt8) : (decC l).o.length ≤ maxLen ∧ (decC l).n.length ≤ maxLen := by
  have := byteAt_lt l 28
  cases h : isSec l
  · rw [(dec_no h).1]; exact ⟨by decide, by decide⟩
  · rw [(dec_yes h).1]
    unfold cutC maxLen
    simp only [List.length_map, List.length_range]
    omega
theorem best_lens (l k : List UInt8) : (bestC l k).o.length ≤ maxLen ∧ (bestC l k).n.length ≤ maxLen := by
  unfold bestC
  split
  · exact dec_lens k
  · exact dec_lens l
set_option maxRecDepth 100000 in
set_option maxHeartbeats 16000000 in
theorem told (g0 e0 l0 v0 : Int) (A0 : Option Addr) (m0 p0 : Nat) (B0 : Option Addr) (k0 q0 : Nat) (o0 n0 : List Int) (s t : ByteArray) (w : World) (hg0 : 0 ≤ g0 ∧ g0 < 18446744073709551616) (he0 : 0 ≤ e0 ∧ e0 < 4294967296) (hl0 : 0 ≤ l0 ∧ l0 < 18446744073709551616) (hv0 : 0 ≤ v0 ∧ v0 < 18446744073709551616) (sa0 : Sl w A0 m0 o0) (sb0 : Sl w B0 k0 n0) (hm0 : m0 ≤ maxLen ∧ k0 ≤ maxLen) (hp0 : m0 ≤ p0 ∧ k0 ≤ q0) (T : ByteArray) (ET : Hid (s.extract 0 (min (s.size : Int) 130).toNat = T)) (hsz : s.size ≤ 9223372036854775807) (U : ByteArray) (EU : Hid (t.extract 0 (min (t.size : Int) 130).toNat = U)) (htz : t.size ≤ 9223372036854775807) (DT : Hid (∀ w, Calls Try.prog 13 #[.string T] w (DecP T w))) (DR : Hid (∀ w, Calls Try.prog 14 #[.string T] w (DecP T w))) (BT : Hid (∀ w, Calls Try.prog 15 #[.string T, .string U] w (BestP T U w))) (BR : Hid (∀ w, Calls Try.prog 16 #[.string T, .string U] w (BestP T U w))) (S : ByteArray) (y : Int) (E0 : Hid (EncAt w g0 e0 l0 v0 A0 (cut20 m0) p0 B0 (cut20 k0) q0 S y)) (X0 : Hid (∀ W, Below w.heap.size w W → Calls Try.prog 11 #[.agg #[.int .u64 g0, .int .u32 e0, .int .u64 l0, .int .u64 v0, .slice A0 (cut20 m0) p0, .slice B0 (cut20 k0) q0]] W fun e' w' => e' = .returned (.tuple #[.string S, .int .i64 y]) ∧ Below W.heap.size W w')) (b : Bool) (R0 : Hid (∀ W, Below w.heap.size w W → Calls Try.prog 17 #[.agg #[.int .u64 g0, .int .u32 e0, .int .u64 l0, .int .u64 v0, .slice A0 (cut20 m0) p0, .slice B0 (cut20 k0) q0]] W fun e' w' => e' = .returned (.bool b) ∧ Below W.heap.size W w')) (R1 : Hid (∀ W, Below w.heap.size w W → Calls Try.prog 18 #[.agg #[.int .u64 g0, .int .u32 e0, .int .u64 l0, .int .u64 v0, .slice A0 (cut20 m0) p0, .slice B0 (cut20 k0) q0]] W fun e' w' => e' = .returned (.bool b) ∧ Below W.heap.size W w')) (g1 e1 l1 v1 : Int) (o1 n1 : List Int) (y1 : Int) (dT : Hid (decC T.data.toList = ⟨g1, e1, l1, v1, o1, n1⟩ ∧ decE T.data.toList = y1)) (g2 e2 l2 v2 : Int) (o2 n2 : List Int) (i2 : Nat) (y2 : Int) (be : Hid (bestC T.data.toList U.data.toList = ⟨g2, e2, l2, v2, o2, n2⟩ ∧ bestI T.data.toList U.data.toList = i2 ∧ bestE T.data.toList U.data.toList = y2)) (LN : Hid ((o1.length ≤ maxLen ∧ n1.length ≤ maxLen) ∧ o2.length ≤ maxLen ∧ n2.length ≤ maxLen)) :
    Calls Try.prog 3 #[.agg #[.int .u64 g0, .int .u32 e0, .int .u64 l0, .int .u64 v0, .slice A0 m0 p0, .slice B0 k0 q0], .string s, .string t] w fun e' w' => e' = .returned (.bool true) ∧ Below w.heap.size w w' := by
  clear sa0 sb0
  have B := below1 w (.cells #[.int .u64 g0, .int .u32 e0, .int .u64 l0, .int .u64 v0, .slice A0 m0 p0, .slice B0 k0 q0] 26)
  have K0 : Blk (w.alloc (.cells #[.int .u64 g0, .int .u32 e0, .int .u64 l0, .int .u64 v0, .slice A0 m0 p0, .slice B0 k0 q0] 26)) (w.heap.size) 26 (csC g0 e0 l0 v0 A0 m0 p0 B0 k0 q0) := blk_new w 26 (csC g0 e0 l0 v0 A0 m0 p0 B0 k0 q0) (w.heap.size) (by simp)
  have C0 := Lib.hid (fun w => lawcut_any g0 e0 l0 v0 A0 m0 p0 B0 k0 q0 w hm0.1 hm0.2 hp0.1 hp0.2)
  obtain ⟨wa, EW⟩ : ∃ wa, Hid ((w.alloc (.cells #[.int .u64 g0, .int .u32 e0, .int .u64 l0, .int .u64 v0, .slice A0 m0 p0, .slice B0 k0 q0] 26)) = wa) := ⟨_, rfl⟩
  rw [EW.out] at B K0
  go_enter Try.func3, Try.ntmps3
  go_upto_region 1 with fail
  rw [EW.out]
  clear EW
  generalize cut20 m0 = c0 at *
  generalize cut20 k0 = d0 at *
  have HK := Lib.hid K0
  go_wp2_with (with_reducible refine load_c rfl (.tmp 3) rfl (w.heap.size) rfl HK.out ?_)
  refine (C0.out _).mono ?_
  rintro e' u0 ⟨rfl, hb⟩
  replace K0 := K0.later hb
  replace B := Wd.Ge.trans B hb
  clear hb
  clear HK
  have HK := Lib.hid K0
  go_upto_region 2 with (with_reducible refine store_c rfl (.tmp 3) (.tmp 22) rfl (w.heap.size) rfl rfl HK.out ?_)
  replace K0 := K0.row (csC g0 e0 l0 v0 A0 c0 p0 B0 d0 q0)
  replace B := below_set B (show w.heap.size ≤ w.heap.size by omega) (csC g0 e0 l0 v0 A0 c0 p0 B0 d0 q0)
  generalize u0.setRow (w.heap.size) (csC g0 e0 l0 v0 A0 c0 p0 B0 d0 q0) = z0 at *
  clear HK C0
  go_upto_region 3 with fail
  rw [ET.out]
  go_upto_region 4 with fail
  rw [EU.out]
  have HK := Lib.hid K0
  go_wp2_with (with_reducible refine load_c rfl (.tmp 3) rfl (w.heap.size) rfl HK.out ?_)
  refine (E0.out _ B).mono ?_
  rintro e' w1 ⟨rfl, hb⟩
  replace K0 := K0.later hb
  replace B := Wd.Ge.trans B hb
  clear hb
  clear HK E0
  have HK := Lib.hid K0
  go_wp2_with (with_reducible refine load_c rfl (.tmp 3) rfl (w.heap.size) rfl HK.out ?_)
  refine (ref_any g0 e0 l0 v0 A0 c0 p0 B0 d0 q0 _).mono ?_
  rintro e' w2 ⟨rfl, hb⟩
  replace K0 := K0.later hb
  replace B := Wd.Ge.trans B hb
  clear hb
  clear HK
  go_wp2_with fail
  refine (X0.out _ B).mono ?_
  rintro e' w3 ⟨rfl, hb⟩
  replace K0 := K0.later hb
  replace B := Wd.Ge.trans B hb
  clear hb
  clear X0
  go_wp2_with fail
  refine (DT.out _).mono ?_
  rintro e' u5 ⟨hb, x, rfl, hx⟩
  replace K0 := K0.later hb
  replace B := Wd.Ge.trans B hb
  clear hb
  rw [dT.out.1] at hx
  obtain ⟨A5, m5, p5, B5, k5, q5, rfl, sa5, sb5, _⟩ := hx
  rw [dT.out.2]
  dsimp only at sa5 sb5 ⊢
  have F5 : Blk (u5.alloc (.cells #[.int .u64 0, .int .u32 0, .int .u64 0, .int .u64 0, .slice none 0 0, .slice none 0 0] 26)) u5.heap.size 26 (csC 0 0 0 0 none 0 0 none 0 0) := Blk.new u5 26 _
  go_upto_region 7 with (with_reducible refine store_c rfl (.tmp 11) (.tmp 47) rfl u5.heap.size rfl rfl F5 ?_; rw [World.setRow_alloc_new])
  have K5 : Blk (u5.alloc (.cells (csC g1 e1 l1 v1 A5 m5 p5 B5 k5 q5) 26)) u5.heap.size 26 (csC g1 e1 l1 v1 A5 m5 p5 B5 k5 q5) := Blk.new _ _ _
  have hb := below1 u5 (.cells (csC g1 e1 l1 v1 A5 m5 p5 B5 k5 q5) 26)
  replace sa5 := sa5.later hb
  replace sb5 := sb5.later hb
  replace K0 := K0.later hb
  replace B := Wd.Ge.trans B hb
  clear hb
  clear F5
  generalize u5.alloc (.cells (csC g1 e1 l1 v1 A5 m5 p5 B5 k5 q5) 26) = y5 at *
  generalize u5.heap.size = b5 at *
  go_wp2_with fail
  refine (DR.out _).mono ?_
  rintro e' u6 ⟨hb, x, rfl, hx⟩
  replace K0 := K0.later hb
  replace K5 := K5.later hb
  replace sa5 := sa5.later hb
  replace sb5 := sb5.later hb
  replace B := Wd.Ge.trans B hb
  clear hb
  rw [dT.out.1] at hx
  obtain ⟨A6, m6, p6, B6, k6, q6, rfl, sa6, sb6, _⟩ := hx
  rw [dT.out.2]
  dsimp only at sa6 sb6 ⊢
  have F6 : Blk (u6.alloc (.cells #[.int .u64 0, .int .u32 0, .int .u64 0, .int .u64 0, .slice none 0 0, .slice none 0 0] 32)) u6.heap.size 32 (csC 0 0 0 0 none 0 0 none 0 0) := Blk.new u6 32 _
  go_upto_region 8 with (with_reducible refine store_r rfl (.tmp 13) (.tmp 52) rfl u6.heap.size rfl rfl F6 ?_; rw [World.setRow_alloc_new])
  have K6 : Blk (u6.alloc (.cells (csC g1 e1 l1 v1 A6 m6 p6 B6 k6 q6) 32)) u6.heap.size 32 (csC g1 e1 l1 v1 A6 m6 p6 B6 k6 q6) := Blk.new _ _ _
  have hb := below1 u6 (.cells (csC g1 e1 l1 v1 A6 m6 p6 B6 k6 q6) 32)
  replace sa6 := sa6.later hb
  replace sb6 := sb6.later hb
  replace K0 := K0.later hb
  replace K5 := K5.later hb
  replace sa5 := sa5.later hb
  replace sb5 := sb5.later hb
  replace B := Wd.Ge.trans B hb
  clear hb
  clear F6
  generalize u6.alloc (.cells (csC g1 e1 l1 v1 A6 m6 p6 B6 k6 q6) 32) = y6 at *
  generalize u6.heap.size = b6 at *
  go_wp2_with fail
  refine (BT.out _).mono ?_
  rintro e' u7 ⟨hb, x, rfl, hx⟩
  replace K0 := K0.later hb
  replace K5 := K5.later hb
  replace sa5 := sa5.later hb
  replace sb5 := sb5.later hb
  replace K6 := K6.later hb
  replace sa6 := sa6.later hb
  replace sb6 := sb6.later hb
  replace B := Wd.Ge.trans B hb
  clear hb
  rw [be.out.1] at hx
  obtain ⟨A7, m7, p7, B7, k7, q7, rfl, sa7, sb7, _⟩ := hx
  rw [be.out.2.1, be.out.2.2]
  dsimp only at sa7 sb7 ⊢
  have F7 : Blk (u7.alloc (.cells #[.int .u64 0, .int .u32 0, .int .u64 0, .int .u64 0, .slice none 0 0, .slice none 0 0] 26)) u7.heap.size 26 (csC 0 0 0 0 none 0 0 none 0 0) := Blk.new u7 26 _
  go_upto_region 9 with (with_reducible refine store_c rfl (.tmp 15) (.tmp 58) rfl u7.heap.size rfl rfl F7 ?_; rw [World.setRow_alloc_new])
  have K7 : Blk (u7.alloc (.cells (csC g2 e2 l2 v2 A7 m7 p7 B7 k7 q7) 26)) u7.heap.size 26 (csC g2 e2 l2 v2 A7 m7 p7 B7 k7 q7) := Blk.new _ _ _
  have hb := below1 u7 (.cells (csC g2 e2 l2 v2 A7 m7 p7 B7 k7 q7) 26)
  replace sa7 := sa7.later hb
  replace sb7 := sb7.later hb
  replace K0 := K0.later hb
  replace K5 := K5.later hb
  replace sa5 := sa5.later hb
  replace sb5 := sb5.later hb
  replace K6 := K6.later hb
  replace sa6 := sa6.later hb
  replace sb6 := sb6.later hb
  replace B := Wd.Ge.trans B hb
  clear hb
  clear F7
  generalize u7.alloc (.cells (csC g2 e2 l2 v2 A7 m7 p7 B7 k7 q7) 26) = y7 at *
  generalize u7.heap.size = b7 at *
  go_wp2_with fail
  refine (BR.out _).mono ?_
  rintro e' u8 ⟨hb, x, rfl, hx⟩
  replace K0 := K0.later hb
  replace K5 := K5.later hb
  replace sa5 := sa5.later hb
  replace sb5 := sb5.later hb
  replace K6 := K6.later hb
  replace sa6 := sa6.later hb
  replace sb6 := sb6.later hb
  replace K7 := K7.later hb
  replace sa7 := sa7.later hb
  replace sb7 := sb7.later hb
  replace B := Wd.Ge.trans B hb
  clear hb
  rw [be.out.1] at hx
  obtain ⟨A8, m8, p8, B8, k8, q8, rfl, sa8, sb8, _⟩ := hx
  rw [be.out.2.1, be.out.2.2]
  dsimp only at sa8 sb8 ⊢
  have F8 : Blk (u8.alloc (.cells #[.int .u64 0, .int .u32 0, .int .u64 0, .int .u64 0, .slice none 0 0, .slice none 0 0] 32)) u8.heap.size 32 (csC 0 0 0 0 none 0 0 none 0 0) := Blk.new u8 32 _
  go_upto_region 10 with (with_reducible refine store_r rfl (.tmp 18) (.tmp 65) rfl u8.heap.size rfl rfl F8 ?_; rw [World.setRow_alloc_new])
  have K8 : Blk (u8.alloc (.cells (csC g2 e2 l2 v2 A8 m8 p8 B8 k8 q8) 32)) u8.heap.size 32 (csC g2 e2 l2 v2 A8 m8 p8 B8 k8 q8) := Blk.new _ _ _
  have hb := below1 u8 (.cells (csC g2 e2 l2 v2 A8 m8 p8 B8 k8 q8) 32)
  replace sa8 := sa8.later hb
  replace sb8 := sb8.later hb
  replace K0 := K0.later hb
  replace K5 := K5.later hb
  replace sa5 := sa5.later hb
  replace sb5 := sb5.later hb
  replace K6 := K6.later hb
  replace sa6 := sa6.later hb
  replace sb6 := sb6.later hb
  replace K7 := K7.later hb
  replace sa7 := sa7.later hb
  replace sb7 := sb7.later hb
  replace B := Wd.Ge.trans B hb
  clear hb
  clear F8
  generalize u8.alloc (.cells (csC g2 e2 l2 v2 A8 m8 p8 B8 k8 q8) 32) = y8 at *
  generalize u8.heap.size = b8 at *
  have m5l : m5 ≤ maxLen := by rw [sa5.len]; exact LN.out.1.1
  have k5l : k5 ≤ maxLen := by rw [sb5.len]; exact LN.out.1.2
  have m7l : m7 ≤ maxLen := by rw [sa7.len]; exact LN.out.2.1
  have k7l : k7 ≤ maxLen := by rw [sb7.len]; exact LN.out.2.2
  have I : It6 w [(w.heap.size, 26, csC g0 e0 l0 v0 A0 c0 p0 B0 d0 q0), (b5, 26, csC g1 e1 l1 v1 A5 m5 p5 B5 k5 q5), (b6, 32, csC g1 e1 l1 v1 A6 m6 p6 B6 k6 q6), (b7, 26, csC g2 e2 l2 v2 A7 m7 p7 B7 k7 q7), (b8, 32, csC g2 e2 l2 v2 A8 m8 p8 B8 k8 q8)] [(A5, m5, o1), (B5, k5, n1), (A6, m6, o1), (B6, k6, n1), (A7, m7, o2), (B7, k7, n2), (A8, m8, o2), (B8, k8, n2)] y8 := ((((((It6.nil B).cons K8).cons K7).cons K6).cons K5).cons K0).scons sb8 |>.scons sa8 |>.scons sb7 |>.scons sa7 |>.scons sb6 |>.scons sa6 |>.scons sb5 |>.scons sa5
  clear B K0 K5 K6 K7 K8 sa5 sb5 sa6 sb6 sa7 sb7 sa8 sb8 DT DR BT BR dT be
  have hne : Nonempty (In (It6 w [(w.heap.size, 26, csC g0 e0 l0 v0 A0 c0 p0 B0 d0 q0), (b5, 26, csC g1 e1 l1 v1 A5 m5 p5 B5 k5 q5), (b6, 32, csC g1 e1 l1 v1 A6 m6 p6 B6 k6 q6), (b7, 26, csC g2 e2 l2 v2 A7 m7 p7 B7 k7 q7), (b8, 32, csC g2 e2 l2 v2 A8 m8 p8 B8 k8 q8)] [(A5, m5, o1), (B5, k5, n1), (A6, m6, o1), (B6, k6, n1), (A7, m7, o2), (B7, k7, n2), (A8, m8, o2), (B8, k8, n2)])) := ⟨⟨_, I⟩⟩
  have fa0 : ∀ j : In (It6 w [(w.heap.size, 26, csC g0 e0 l0 v0 A0 c0 p0 B0 d0 q0), (b5, 26, csC g1 e1 l1 v1 A5 m5 p5 B5 k5 q5), (b6, 32, csC g1 e1 l1 v1 A6 m6 p6 B6 k6 q6), (b7, 26, csC g2 e2 l2 v2 A7 m7 p7 B7 k7 q7), (b8, 32, csC g2 e2 l2 v2 A8 m8 p8 B8 k8 q8)] [(A5, m5, o1), (B5, k5, n1), (A6, m6, o1), (B6, k6, n1), (A7, m7, o2), (B7, k7, n2), (A8, m8, o2), (B8, k8, n2)]), j.W.cell? ⟨w.heap.size, 0, none⟩ = some (.int .u64 g0) := fun j => (j.h.at_ 0 rfl).cell 0
  have fa1 : ∀ j : In (It6 w [(w.heap.size, 26, csC g0 e0 l0 v0 A0 c0 p0 B0 d0 q0), (b5, 26, csC g1 e1 l1 v1 A5 m5 p5 B5 k5 q5), (b6, 32, csC g1 e1 l1 v1 A6 m6 p6 B6 k6 q6), (b7, 26, csC g2 e2 l2 v2 A7 m7 p7 B7 k7 q7), (b8, 32, csC g2 e2 l2 v2 A8 m8 p8 B8 k8 q8)] [(A5, m5, o1), (B5, k5, n1), (A6, m6, o1), (B6, k6, n1), (A7, m7, o2), (B7, k7, n2), (A8, m8, o2), (B8, k8, n2)]), j.W.cell? ⟨w.heap.size, 1, none⟩ = some (.int .u32 e0) := fun j => (j.h.at_ 0 rfl).cell 1
  have fa2 : ∀ j : In (It6 w [(w.heap.size, 26, csC g0 e0 l0 v0 A0 c0 p0 B0 d0 q0), (b5, 26, csC g1 e1 l1 v1 A5 m5 p5 B5 k5 q5), (b6, 32, csC g1 e1 l1 v1 A6 m6 p6 B6 k6 q6), (b7, 26, csC g2 e2 l2 v2 A7 m7 p7 B7 k7 q7), (b8, 32, csC g2 e2 l2 v2 A8 m8 p8 B8 k8 q8)] [(A5, m5, o1), (B5, k5, n1), (A6, m6, o1), (B6, k6, n1), (A7, m7, o2), (B7, k7, n2), (A8, m8, o2), (B8, k8, n2)]), j.W.cell? ⟨w.heap.size, 2, none⟩ = some (.int .u64 l0) := fun j => (j.h.at_ 0 rfl).cell 2
  have fa3 : ∀ j : In (It6 w [(w.heap.size, 26, csC g0 e0 l0 v0 A0 c0 p0 B0 d0 q0), (b5, 26, csC g1 e1 l1 v1 A5 m5 p5 B5 k5 q5), (b6, 32, csC g1 e1 l1 v1 A6 m6 p6 B6 k6 q6), (b7, 26, csC g2 e2 l2 v2 A7 m7 p7 B7 k7 q7), (b8, 32, csC g2 e2 l2 v2 A8 m8 p8 B8 k8 q8)] [(A5, m5, o1), (B5, k5, n1), (A6, m6, o1), (B6, k6, n1), (A7, m7, o2), (B7, k7, n2), (A8, m8, o2), (B8, k8, n2)]), j.W.cell? ⟨w.heap.size, 3, none⟩ = some (.int .u64 v0) := fun j => (j.h.at_ 0 rfl).cell 3
  have fa4 : ∀ j : In (It6 w [(w.heap.size, 26, csC g0 e0 l0 v0 A0 c0 p0 B0 d0 q0), (b5, 26, csC g1 e1 l1 v1 A5 m5 p5 B5 k5 q5), (b6, 32, csC g1 e1 l1 v1 A6 m6 p6 B6 k6 q6), (b7, 26, csC g2 e2 l2 v2 A7 m7 p7 B7 k7 q7), (b8, 32, csC g2 e2 l2 v2 A8 m8 p8 B8 k8 q8)] [(A5, m5, o1), (B5, k5, n1), (A6, m6, o1), (B6, k6, n1), (A7, m7, o2), (B7, k7, n2), (A8, m8, o2), (B8, k8, n2)]), j.W.cell? ⟨w.heap.size, 4, none⟩ = some (.slice A0 c0 p0) := fun j => (j.h.at_ 0 rfl).cell 4
  have fa5 : ∀ j : In (It6 w [(w.heap.size, 26, csC g0 e0 l0 v0 A0 c0 p0 B0 d0 q0), (b5, 26, csC g1 e1 l1 v1 A5 m5 p5 B5 k5 q5), (b6, 32, csC g1 e1 l1 v1 A6 m6 p6 B6 k6 q6), (b7, 26, csC g2 e2 l2 v2 A7 m7 p7 B7 k7 q7), (b8, 32, csC g2 e2 l2 v2 A8 m8 p8 B8 k8 q8)] [(A5, m5, o1), (B5, k5, n1), (A6, m6, o1), (B6, k6, n1), (A7, m7, o2), (B7, k7, n2), (A8, m8, o2), (B8, k8, n2)]), j.W.cell? ⟨w.heap.size, 5, none⟩ = some (.slice B0 d0 q0) := fun j => (j.h.at_ 0 rfl).cell 5
  have fx0 : ∀ j : In (It6 w [(w.heap.size, 26, csC g0 e0 l0 v0 A0 c0 p0 B0 d0 q0), (b5, 26, csC g1 e1 l1 v1 A5 m5 p5 B5 k5 q5), (b6, 32, csC g1 e1 l1 v1 A6 m6 p6 B6 k6 q6), (b7, 26, csC g2 e2 l2 v2 A7 m7 p7 B7 k7 q7), (b8, 32, csC g2 e2 l2 v2 A8 m8 p8 B8 k8 q8)] [(A5, m5, o1), (B5, k5, n1), (A6, m6, o1), (B6, k6, n1), (A7, m7, o2), (B7, k7, n2), (A8, m8, o2), (B8, k8, n2)]), j.W.cell? ⟨b5, 0, none⟩ = some (.int .u64 g1) := fun j => (j.h.at_ 1 rfl).cell 0
  have fx1 : ∀ j : In (It6 w [(w.heap.size, 26, csC g0 e0 l0 v0 A0 c0 p0 B0 d0 q0), (b5, 26, csC g1 e1 l1 v1 A5 m5 p5 B5 k5 q5), (b6, 32, csC g1 e1 l1 v1 A6 m6 p6 B6 k6 q6), (b7, 26, csC g2 e2 l2 v2 A7 m7 p7 B7 k7 q7), (b8, 32, csC g2 e2 l2 v2 A8 m8 p8 B8 k8 q8)] [(A5, m5, o1), (B5, k5, n1), (A6, m6, o1), (B6, k6, n1), (A7, m7, o2), (B7, k7, n2), (A8, m8, o2), (B8, k8, n2)]), j.W.cell? ⟨b5, 1, none⟩ = some (.int .u32 e1) := fun j => (j.h.at_ 1 rfl).cell 1
  have fx2 : ∀ j : In (It6 w [(w.heap.size, 26, csC g0 e0 l0 v0 A0 c0 p0 B0 d0 q0), (b5, 26, csC g1 e1 l1 v1 A5 m5 p5 B5 k5 q5), (b6, 32, csC g1 e1 l1 v1 A6 m6 p6 B6 k6 q6), (b7, 26, csC g2 e2 l2 v2 A7 m7 p7 B7 k7 q7), (b8, 32, csC g2 e2 l2 v2 A8 m8 p8 B8 k8 q8)] [(A5, m5, o1), (B5, k5, n1), (A6, m6, o1), (B6, k6, n1), (A7, m7, o2), (B7, k7, n2), (A8, m8, o2), (B8, k8, n2)]), j.W.cell? ⟨b5, 2, none⟩ = some (.int .u64 l1) := fun j => (j.h.at_ 1 rfl).cell 2
  have fx3 : ∀ j : In (It6 w [(w.heap.size, 26, csC g0 e0 l0 v0 A0 c0 p0 B0 d0 q0), (b5, 26, csC g1 e1 l1 v1 A5 m5 p5 B5 k5 q5), (b6, 32, csC g1 e1 l1 v1 A6 m6 p6 B6 k6 q6), (b7, 26, csC g2 e2 l2 v2 A7 m7 p7 B7 k7 q7), (b8, 32, csC g2 e2 l2 v2 A8 m8 p8 B8 k8 q8)] [(A5, m5, o1), (B5, k5, n1), (A6, m6, o1), (B6, k6, n1), (A7, m7, o2), (B7, k7, n2), (A8, m8, o2), (B8, k8, n2)]), j.W.cell? ⟨b5, 3, none⟩ = some (.int .u64 v1) := fun j => (j.h.at_ 1 rfl).cell 3
  have fx4 : ∀ j : In (It6 w [(w.heap.size, 26, csC g0 e0 l0 v0 A0 c0 p0 B0 d0 q0), (b5, 26, csC g1 e1 l1 v1 A5 m5 p5 B5 k5 q5), (b6, 32, csC g1 e1 l1 v1 A6 m6 p6 B6 k6 q6), (b7, 26, csC g2 e2 l2 v2 A7 m7 p7 B7 k7 q7), (b8, 32, csC g2 e2 l2 v2 A8 m8 p8 B8 k8 q8)] [(A5, m5, o1), (B5, k5, n1), (A6, m6, o1), (B6, k6, n1), (A7, m7, o2), (B7, k7, n2), (A8, m8, o2), (B8, k8, n2)]), j.W.cell? ⟨b5, 4, none⟩ = some (.slice A5 m5 p5) := fun j => (j.h.at_ 1 rfl).cell 4
  have fx5 : ∀ j : In (It6 w [(w.heap.size, 26, csC g0 e0 l0 v0 A0 c0 p0 B0 d0 q0), (b5, 26, csC g1 e1 l1 v1 A5 m5 p5 B5 k5 q5), (b6, 32, csC g1 e1 l1 v1 A6 m6 p6 B6 k6 q6), (b7, 26, csC g2 e2 l2 v2 A7 m7 p7 B7 k7 q7), (b8, 32, csC g2 e2 l2 v2 A8 m8 p8 B8 k8 q8)] [(A5, m5, o1), (B5, k5, n1), (A6, m6, o1), (B6, k6, n1), (A7, m7, o2), (B7, k7, n2), (A8, m8, o2), (B8, k8, n2)]), j.W.cell? ⟨b5, 5, none⟩ = some (.slice B5 k5 q5) := fun j => (j.h.at_ 1 rfl).cell 5
  have fy0 : ∀ j : In (It6 w [(w.heap.size, 26, csC g0 e0 l0 v0 A0 c0 p0 B0 d0 q0), (b5, 26, csC g1 e1 l1 v1 A5 m5 p5 B5 k5 q5), (b6, 32, csC g1 e1 l1 v1 A6 m6 p6 B6 k6 q6), (b7, 26, csC g2 e2 l2 v2 A7 m7 p7 B7 k7 q7), (b8, 32, csC g2 e2 l2 v2 A8 m8 p8 B8 k8 q8)] [(A5, m5, o1), (B5, k5, n1), (A6, m6, o1), (B6, k6, n1), (A7, m7, o2), (B7, k7, n2), (A8, m8, o2), (B8, k8, n2)]), j.W.cell? ⟨b6, 0, none⟩ = some (.int .u64 g1) := fun j => (j.h.at_ 2 rfl).cell 0
  have fy1 : ∀ j : In (It6 w [(w.heap.size, 26, csC g0 e0 l0 v0 A0 c0 p0 B0 d0 q0), (b5, 26, csC g1 e1 l1 v1 A5 m5 p5 B5 k5 q5), (b6, 32, csC g1 e1 l1 v1 A6 m6 p6 B6 k6 q6), (b7, 26, csC g2 e2 l2 v2 A7 m7 p7 B7 k7 q7), (b8, 32, csC g2 e2 l2 v2 A8 m8 p8 B8 k8 q8)] [(A5, m5, o1), (B5, k5, n1), (A6, m6, o1), (B6, k6, n1), (A7, m7, o2), (B7, k7, n2), (A8, m8, o2), (B8, k8, n2)]), j.W.cell? ⟨b6, 1, none⟩ = some (.int .u32 e1) := fun j => (j.h.at_ 2 rfl).cell 1
  have fy2 : ∀ j : In (It6 w [(w.heap.size, 26, csC g0 e0 l0 v0 A0 c0 p0 B0 d0 q0), (b5, 26, csC g1 e1 l1 v1 A5 m5 p5 B5 k5 q5), (b6, 32, csC g1 e1 l1 v1 A6 m6 p6 B6 k6 q6), (b7, 26, csC g2 e2 l2 v2 A7 m7 p7 B7 k7 q7), (b8, 32, csC g2 e2 l2 v2 A8 m8 p8 B8 k8 q8)] [(A5, m5, o1), (B5, k5, n1), (A6, m6, o1), (B6, k6, n1), (A7, m7, o2), (B7, k7, n2), (A8, m8, o2), (B8, k8, n2)]), j.W.cell? ⟨b6, 2, none⟩ = some (.int .u64 l1) := fun j => (j.h.at_ 2 rfl).cell 2
  have fy3 : ∀ j : In (It6 w [(w.heap.size, 26, csC g0 e0 l0 v0 A0 c0 p0 B0 d0 q0), (b5, 26, csC g1 e1 l1 v1 A5 m5 p5 B5 k5 q5), (b6, 32, csC g1 e1 l1 v1 A6 m6 p6 B6 k6 q6), (b7, 26, csC g2 e2 l2 v2 A7 m7 p7 B7 k7 q7), (b8, 32, csC g2 e2 l2 v2 A8 m8 p8 B8 k8 q8)] [(A5, m5, o1), (B5, k5, n1), (A6, m6, o1), (B6, k6, n1), (A7, m7, o2), (B7, k7, n2), (A8, m8, o2), (B8, k8, n2)]), j.W.cell? ⟨b6, 3, none⟩ = some (.int .u64 v1) := fun j => (j.h.at_ 2 rfl).cell 3
  have fy4 : ∀ j : In (It6 w [(w.heap.size, 26, csC g0 e0 l0 v0 A0 c0 p0 B0 d0 q0), (b5, 26, csC g1 e1 l1 v1 A5 m5 p5 B5 k5 q5), (b6, 32, csC g1 e1 l1 v1 A6 m6 p6 B6 k6 q6), (b7, 26, csC g2 e2 l2 v2 A7 m7 p7 B7 k7 q7), (b8, 32, csC g2 e2 l2 v2 A8 m8 p8 B8 k8 q8)] [(A5, m5, o1), (B5, k5, n1), (A6, m6, o1), (B6, k6, n1), (A7, m7, o2), (B7, k7, n2), (A8, m8, o2), (B8, k8, n2)]), j.W.cell? ⟨b6, 4, none⟩ = some (.slice A6 m6 p6) := fun j => (j.h.at_ 2 rfl).cell 4
  have fy5 : ∀ j : In (It6 w [(w.heap.size, 26, csC g0 e0 l0 v0 A0 c0 p0 B0 d0 q0), (b5, 26, csC g1 e1 l1 v1 A5 m5 p5 B5 k5 q5), (b6, 32, csC g1 e1 l1 v1 A6 m6 p6 B6 k6 q6), (b7, 26, csC g2 e2 l2 v2 A7 m7 p7 B7 k7 q7), (b8, 32, csC g2 e2 l2 v2 A8 m8 p8 B8 k8 q8)] [(A5, m5, o1), (B5, k5, n1), (A6, m6, o1), (B6, k6, n1), (A7, m7, o2), (B7, k7, n2), (A8, m8, o2), (B8, k8, n2)]), j.W.cell? ⟨b6, 5, none⟩ = some (.slice B6 k6 q6) := fun j => (j.h.at_ 2 rfl).cell 5
  have fz0 : ∀ j : In (It6 w [(w.heap.size, 26, csC g0 e0 l0 v0 A0 c0 p0 B0 d0 q0), (b5, 26, csC g1 e1 l1 v1 A5 m5 p5 B5 k5 q5), (b6, 32, csC g1 e1 l1 v1 A6 m6 p6 B6 k6 q6), (b7, 26, csC g2 e2 l2 v2 A7 m7 p7 B7 k7 q7), (b8, 32, csC g2 e2 l2 v2 A8 m8 p8 B8 k8 q8)] [(A5, m5, o1), (B5, k5, n1), (A6, m6, o1), (B6, k6, n1), (A7, m7, o2), (B7, k7, n2), (A8, m8, o2), (B8, k8, n2)]), j.W.cell? ⟨b7, 0, none⟩ = some (.int .u64 g2) := fun j => (j.h.at_ 3 rfl).cell 0
  have fz1 : ∀ j : In (It6 w [(w.heap.size, 26, csC g0 e0 l0 v0 A0 c0 p0 B0 d0 q0), (b5, 26, csC g1 e1 l1 v1 A5 m5 p5 B5 k5 q5), (b6, 32, csC g1 e1 l1 v1 A6 m6 p6 B6 k6 q6), (b7, 26, csC g2 e2 l2 v2 A7 m7 p7 B7 k7 q7), (b8, 32, csC g2 e2 l2 v2 A8 m8 p8 B8 k8 q8)] [(A5, m5, o1), (B5, k5, n1), (A6, m6, o1), (B6, k6, n1), (A7, m7, o2), (B7, k7, n2), (A8, m8, o2), (B8, k8, n2)]), j.W.cell? ⟨b7, 1, none⟩ = some (.int .u32 e2) := fun j => (j.h.at_ 3 rfl).cell 1
  have fz2 : ∀ j : In (It6 w [(w.heap.size, 26, csC g0 e0 l0 v0 A0 c0 p0 B0 d0 q0), (b5, 26, csC g1 e1 l1 v1 A5 m5 p5 B5 k5 q5), (b6, 32, csC g1 e1 l1 v1 A6 m6 p6 B6 k6 q6), (b7, 26, csC g2 e2 l2 v2 A7 m7 p7 B7 k7 q7), (b8, 32, csC g2 e2 l2 v2 A8 m8 p8 B8 k8 q8)] [(A5, m5, o1), (B5, k5, n1), (A6, m6, o1), (B6, k6, n1), (A7, m7, o2), (B7, k7, n2), (A8, m8, o2), (B8, k8, n2)]), j.W.cell? ⟨b7, 2, none⟩ = some (.int .u64 l2) := fun j => (j.h.at_ 3 rfl).cell 2
  have fz3 : ∀ j : In (It6 w [(w.heap.size, 26, csC g0 e0 l0 v0 A0 c0 p0 B0 d0 q0), (b5, 26, csC g1 e1 l1 v1 A5 m5 p5 B5 k5 q5), (b6, 32, csC g1 e1 l1 v1 A6 m6 p6 B6 k6 q6), (b7, 26, csC g2 e2 l2 v2 A7 m7 p7 B7 k7 q7), (b8, 32, csC g2 e2 l2 v2 A8 m8 p8 B8 k8 q8)] [(A5, m5, o1), (B5, k5, n1), (A6, m6, o1), (B6, k6, n1), (A7, m7, o2), (B7, k7, n2), (A8, m8, o2), (B8, k8, n2)]), j.W.cell? ⟨b7, 3, none⟩ = some (.int .u64 v2) := fun j => (j.h.at_ 3 rfl).cell 3
  have fz4 : ∀ j : In (It6 w [(w.heap.size, 26, csC g0 e0 l0 v0 A0 c0 p0 B0 d0 q0), (b5, 26, csC g1 e1 l1 v1 A5 m5 p5 B5 k5 q5), (b6, 32, csC g1 e1 l1 v1 A6 m6 p6 B6 k6 q6), (b7, 26, csC g2 e2 l2 v2 A7 m7 p7 B7 k7 q7), (b8, 32, csC g2 e2 l2 v2 A8 m8 p8 B8 k8 q8)] [(A5, m5, o1), (B5, k5, n1), (A6, m6, o1), (B6, k6, n1), (A7, m7, o2), (B7, k7, n2), (A8, m8, o2), (B8, k8, n2)]), j.W.cell? ⟨b7, 4, none⟩ = some (.slice A7 m7 p7) := fun j => (j.h.at_ 3 rfl).cell 4
  have fz5 : ∀ j : In (It6 w [(w.heap.size, 26, csC g0 e0 l0 v0 A0 c0 p0 B0 d0 q0), (b5, 26, csC g1 e1 l1 v1 A5 m5 p5 B5 k5 q5), (b6, 32, csC g1 e1 l1 v1 A6 m6 p6 B6 k6 q6), (b7, 26, csC g2 e2 l2 v2 A7 m7 p7 B7 k7 q7), (b8, 32, csC g2 e2 l2 v2 A8 m8 p8 B8 k8 q8)] [(A5, m5, o1), (B5, k5, n1), (A6, m6, o1), (B6, k6, n1), (A7, m7, o2), (B7, k7, n2), (A8, m8, o2), (B8, k8, n2)]), j.W.cell? ⟨b7, 5, none⟩ = some (.slice B7 k7 q7) := fun j => (j.h.at_ 3 rfl).cell 5
  have fu0 : ∀ j : In (It6 w [(w.heap.size, 26, csC g0 e0 l0 v0 A0 c0 p0 B0 d0 q0), (b5, 26, csC g1 e1 l1 v1 A5 m5 p5 B5 k5 q5), (b6, 32, csC g1 e1 l1 v1 A6 m6 p6 B6 k6 q6), (b7, 26, csC g2 e2 l2 v2 A7 m7 p7 B7 k7 q7), (b8, 32, csC g2 e2 l2 v2 A8 m8 p8 B8 k8 q8)] [(A5, m5, o1), (B5, k5, n1), (A6, m6, o1), (B6, k6, n1), (A7, m7, o2), (B7, k7, n2), (A8, m8, o2), (B8, k8, n2)]), j.W.cell? ⟨b8, 0, none⟩ = some (.int .u64 g2) := fun j => (j.h.at_ 4 rfl).cell 0
  have fu1 : ∀ j : In (It6 w [(w.heap.size, 26, csC g0 e0 l0 v0 A0 c0 p0 B0 d0 q0), (b5, 26, csC g1 e1 l1 v1 A5 m5 p5 B5 k5 q5), (b6, 32, csC g1 e1 l1 v1 A6 m6 p6 B6 k6 q6), (b7, 26, csC g2 e2 l2 v2 A7 m7 p7 B7 k7 q7), (b8, 32, csC g2 e2 l2 v2 A8 m8 p8 B8 k8 q8)] [(A5, m5, o1), (B5, k5, n1), (A6, m6, o1), (B6, k6, n1), (A7, m7, o2), (B7, k7, n2), (A8, m8, o2), (B8, k8, n2)]), j.W.cell? ⟨b8, 1, none⟩ = some (.int .u32 e2) := fun j => (j.h.at_ 4 rfl).cell 1
  have fu2 : ∀ j : In (It6 w [(w.heap.size, 26, csC g0 e0 l0 v0 A0 c0 p0 B0 d0 q0), (b5, 26, csC g1 e1 l1 v1 A5 m5 p5 B5 k5 q5), (b6, 32, csC g1 e1 l1 v1 A6 m6 p6 B6 k6 q6), (b7, 26, csC g2 e2 l2 v2 A7 m7 p7 B7 k7 q7), (b8, 32, csC g2 e2 l2 v2 A8 m8 p8 B8 k8 q8)] [(A5, m5, o1), (B5, k5, n1), (A6, m6, o1), (B6, k6, n1), (A7, m7, o2), (B7, k7, n2), (A8, m8, o2), (B8, k8, n2)]), j.W.cell? ⟨b8, 2, none⟩ = some (.int .u64 l2) := fun j => (j.h.at_ 4 rfl).cell 2
  have fu3 : ∀ j : In (It6 w [(w.heap.size, 26, csC g0 e0 l0 v0 A0 c0 p0 B0 d0 q0), (b5, 26, csC g1 e1 l1 v1 A5 m5 p5 B5 k5 q5), (b6, 32, csC g1 e1 l1 v1 A6 m6 p6 B6 k6 q6), (b7, 26, csC g2 e2 l2 v2 A7 m7 p7 B7 k7 q7), (b8, 32, csC g2 e2 l2 v2 A8 m8 p8 B8 k8 q8)] [(A5, m5, o1), (B5, k5, n1), (A6, m6, o1), (B6, k6, n1), (A7, m7, o2), (B7, k7, n2), (A8, m8, o2), (B8, k8, n2)]), j.W.cell? ⟨b8, 3, none⟩ = some (.int .u64 v2) := fun j => (j.h.at_ 4 rfl).cell 3
  have fu4 : ∀ j : In (It6 w [(w.heap.size, 26, csC g0 e0 l0 v0 A0 c0 p0 B0 d0 q0), (b5, 26, csC g1 e1 l1 v1 A5 m5 p5 B5 k5 q5), (b6, 32, csC g1 e1 l1 v1 A6 m6 p6 B6 k6 q6), (b7, 26, csC g2 e2 l2 v2 A7 m7 p7 B7 k7 q7), (b8, 32, csC g2 e2 l2 v2 A8 m8 p8 B8 k8 q8)] [(A5, m5, o1), (B5, k5, n1), (A6, m6, o1), (B6, k6, n1), (A7, m7, o2), (B7, k7, n2), (A8, m8, o2), (B8, k8, n2)]), j.W.cell? ⟨b8, 4, none⟩ = some (.slice A8 m8 p8) := fun j => (j.h.at_ 4 rfl).cell 4
  have fu5 : ∀ j : In (It6 w [(w.heap.size, 26, csC g0 e0 l0 v0 A0 c0 p0 B0 d0 q0), (b5, 26, csC g1 e1 l1 v1 A5 m5 p5 B5 k5 q5), (b6, 32, csC g1 e1 l1 v1 A6 m6 p6 B6 k6 q6), (b7, 26, csC g2 e2 l2 v2 A7 m7 p7 B7 k7 q7), (b8, 32, csC g2 e2 l2 v2 A8 m8 p8 B8 k8 q8)] [(A5, m5, o1), (B5, k5, n1), (A6, m6, o1), (B6, k6, n1), (A7, m7, o2), (B7, k7, n2), (A8, m8, o2), (B8, k8, n2)]), j.W.cell? ⟨b8, 5, none⟩ = some (.slice B8 k8 q8) := fun j => (j.h.at_ 4 rfl).cell 5
  have II := Lib.hid I
  clear I
  have SQ1 := Lib.hid (fun W (hi : It6 w [(w.heap.size, 26, csC g0 e0 l0 v0 A0 c0 p0 B0 d0 q0), (b5, 26, csC g1 e1 l1 v1 A5 m5 p5 B5 k5 q5), (b6, 32, csC g1 e1 l1 v1 A6 m6 p6 B6 k6 q6), (b7, 26, csC g2 e2 l2 v2 A7 m7 p7 B7 k7 q7), (b8, 32, csC g2 e2 l2 v2 A8 m8 p8 B8 k8 q8)] [(A5, m5, o1), (B5, k5, n1), (A6, m6, o1), (B6, k6, n1), (A7, m7, o2), (B7, k7, n2), (A8, m8, o2), (B8, k8, n2)] W) => same_is g1 e1 l1 v1 A5 m5 p5 B5 k5 q5 g1 e1 l1 v1 A6 m6 p6 B6 k6 q6 o1 n1 o1 n1 true W (hi.sl 0 rfl) (hi.sl 1 rfl) (hi.sl 2 rfl) (hi.sl 3 rfl) m5l k5l (decide_eq_true rfl))
  have SQ2 := Lib.hid (fun W (hi : It6 w [(w.heap.size, 26, csC g0 e0 l0 v0 A0 c0 p0 B0 d0 q0), (b5, 26, csC g1 e1 l1 v1 A5 m5 p5 B5 k5 q5), (b6, 32, csC g1 e1 l1 v1 A6 m6 p6 B6 k6 q6), (b7, 26, csC g2 e2 l2 v2 A7 m7 p7 B7 k7 q7), (b8, 32, csC g2 e2 l2 v2 A8 m8 p8 B8 k8 q8)] [(A5, m5, o1), (B5, k5, n1), (A6, m6, o1), (B6, k6, n1), (A7, m7, o2), (B7, k7, n2), (A8, m8, o2), (B8, k8, n2)] W) => same_is g2 e2 l2 v2 A7 m7 p7 B7 k7 q7 g2 e2 l2 v2 A8 m8 p8 B8 k8 q8 o2 n2 o2 n2 true W (hi.sl 4 rfl) (hi.sl 5 rfl) (hi.sl 6 rfl) (hi.sl 7 rfl) m7l k7l (decide_eq_true rfl))
  have RA := Lib.hid (fun W (hi : It6 w [(w.heap.size, 26, csC g0 e0 l0 v0 A0 c0 p0 B0 d0 q0), (b5, 26, csC g1 e1 l1 v1 A5 m5 p5 B5 k5 q5), (b6, 32, csC g1 e1 l1 v1 A6 m6 p6 B6 k6 q6), (b7, 26, csC g2 e2 l2 v2 A7 m7 p7 B7 k7 q7), (b8, 32, csC g2 e2 l2 v2 A8 m8 p8 B8 k8 q8)] [(A5, m5, o1), (B5, k5, n1), (A6, m6, o1), (B6, k6, n1), (A7, m7, o2), (B7, k7, n2), (A8, m8, o2), (B8, k8, n2)] W) => R0.out W hi.b)
  have RB := Lib.hid (fun W (hi : It6 w [(w.heap.size, 26, csC g0 e0 l0 v0 A0 c0 p0 B0 d0 q0), (b5, 26, csC g1 e1 l1 v1 A5 m5 p5 B5 k5 q5), (b6, 32, csC g1 e1 l1 v1 A6 m6 p6 B6 k6 q6), (b7, 26, csC g2 e2 l2 v2 A7 m7 p7 B7 k7 q7), (b8, 32, csC g2 e2 l2 v2 A8 m8 p8 B8 k8 q8)] [(A5, m5, o1), (B5, k5, n1), (A6, m6, o1), (B6, k6, n1), (A7, m7, o2), (B7, k7, n2), (A8, m8, o2), (B8, k8, n2)] W) => R1.out W hi.b)
  have hqs := eq_self S
  clear R0 R1
  refine region_class (It6 w [(w.heap.size, 26, csC g0 e0 l0 v0 A0 c0 p0 B0 d0 q0), (b5, 26, csC g1 e1 l1 v1 A5 m5 p5 B5 k5 q5), (b6, 32, csC g1 e1 l1 v1 A6 m6 p6 B6 k6 q6), (b7, 26, csC g2 e2 l2 v2 A7 m7 p7 B7 k7 q7), (b8, 32, csC g2 e2 l2 v2 A8 m8 p8 B8 k8 q8)] [(A5, m5, o1), (B5, k5, n1), (A6, m6, o1), (B6, k6, n1), (A7, m7, o2), (B7, k7, n2), (A8, m8, o2), (B8, k8, n2)]) (by kernel_rfl) (by kernel_rfl) II.out.drawn ?_
  repeat (go_big_quiet_step (first
    | (go_at_call 17; with_reducible exact class_call _ (fun hi => it6_ge hi (RA.out _ hi)))
    | (go_at_call 18; with_reducible exact class_call _ (fun hi => it6_ge hi (RB.out _ hi)))
    | (go_at_call 12; with_reducible exact class_call _ (fun hi => it6_ge hi (ref_any g1 e1 l1 v1 A5 m5 p5 B5 k5 q5 _)))
    | (go_at_call 12; with_reducible exact class_call _ (fun hi => it6_ge hi (ref_any g2 e2 l2 v2 A7 m7 p7 B7 k7 q7 _)))
    | (go_at_call 12; with_reducible exact class_call _ (fun hi => it6_ge hi (ref_any g0 e0 l0 v0 A0 c0 p0 B0 d0 q0 _)))
    | (go_at_call 19; with_reducible exact class_call _ (fun hi => it6_ge hi (SQ1.out _ hi)))
    | (go_at_call 19; with_reducible exact class_call _ (fun hi => it6_ge hi (SQ2.out _ hi)))
    | (go_at_call 20; with_reducible exact class_call _ (fun hi => it6_ge hi (fixed_any _)))))
  refine wpQuiet_nil ?_
  rintro _ ⟨j, rfl⟩
  go_wp2_with fail
  go_ret
  exact ⟨rfl, j.h.b⟩

theorem walk (g0 e0 l0 v0 : Int) (A0 : Option Addr) (m0 p0 : Nat) (B0 : Option Addr) (k0 q0 : Nat) (o0 n0 : List Int) (s t : ByteArray) (w : World) (hg0 : 0 ≤ g0 ∧ g0 < 18446744073709551616) (he0 : 0 ≤ e0 ∧ e0 < 4294967296) (hl0 : 0 ≤ l0 ∧ l0 < 18446744073709551616) (hv0 : 0 ≤ v0 ∧ v0 < 18446744073709551616) (sa0 : Sl w A0 m0 o0) (sb0 : Sl w B0 k0 n0) (hm0 : m0 ≤ maxLen ∧ k0 ≤ maxLen) (hp0 : m0 ≤ p0 ∧ k0 ≤ q0) (w1 : s.size ≤ maxLen) (w2 : t.size ≤ maxLen) :
    Calls Try.prog 3 #[.agg #[.int .u64 g0, .int .u32 e0, .int .u64 l0, .int .u64 v0, .slice A0 m0 p0, .slice B0 k0 q0], .string s, .string t] w fun e' w' => e' = .returned (.bool true) ∧ Below w.heap.size w w' := by
  obtain ⟨T, ET⟩ : ∃ T, Hid (s.extract 0 (min (s.size : Int) 130).toNat = T) := ⟨_, rfl⟩
  obtain ⟨U, EU⟩ : ∃ T, Hid (t.extract 0 (min (t.size : Int) 130).toNat = T) := ⟨_, rfl⟩
  have zT : T.size ≤ maxLen := by rw [← ET.out, ByteArray.size_extract]; unfold maxLen; omega
  have zU : U.size ≤ maxLen := by rw [← EU.out, ByteArray.size_extract]; unfold maxLen; omega
  have hsz : s.size ≤ 9223372036854775807 := by unfold maxLen at w1; omega
  have htz : t.size ≤ 9223372036854775807 := by unfold maxLen at w2; omega
  have f0 : Fits (⟨g0, e0, l0, v0, o0.take 20, n0.take 20⟩ : Chk) := fitsA hg0 he0 hl0 hv0
  obtain ⟨g1, e1, l1, v1, o1, n1, h1⟩ : ∃ g1 e1 l1 v1 o1 n1, decC T.data.toList = ⟨g1, e1, l1, v1, o1, n1⟩ := ⟨_, _, _, _, _, _, rfl⟩
  obtain ⟨g2, e2, l2, v2, o2, n2, h2⟩ : ∃ g1 e1 l1 v1 o1 n1, bestC T.data.toList U.data.toList = ⟨g1, e1, l1, v1, o1, n1⟩ := ⟨_, _, _, _, _, _, rfl⟩
  have L1 := dec_lens T.data.toList
  have L2 := best_lens T.data.toList U.data.toList
  rw [h1] at L1
  rw [h2] at L2
  obtain ⟨S, y, E0, X0⟩ : ∃ S y, EncAt w g0 e0 l0 v0 A0 (cut20 m0) p0 B0 (cut20 k0) q0 S y ∧ ∀ W, Below w.heap.size w W → Calls Try.prog 11 #[.agg #[.int .u64 g0, .int .u32 e0, .int .u64 l0, .int .u64 v0, .slice A0 (cut20 m0) p0, .slice B0 (cut20 k0) q0]] W fun e' w' => e' = .returned (.tuple #[.string S, .int .i64 y]) ∧ Below W.heap.size W w' := by
    cases h : okC (⟨g0, e0, l0, v0, o0.take 20, n0.take 20⟩ : Chk)
    · exact ⟨⟨#[]⟩, 5, (enc_no sa0.cut sb0.cut (cut20_le _) hg0.1 hl0.1 h).out, fun W hW => R7.encode_no g0 e0 l0 v0 A0 (cut20 m0) p0 B0 (cut20 k0) q0 (o0.take 20) (n0.take 20) W (sa0.cut.later hW) (sb0.cut.later hW) (cut20_le _) hg0.1 hl0.1 h⟩
    · obtain ⟨S, HS⟩ : ∃ S : ByteArray, secL (⟨g0, e0, l0, v0, o0.take 20, n0.take 20⟩ : Chk) = S.data.toList := ⟨⟨(secL (⟨g0, e0, l0, v0, o0.take 20, n0.take 20⟩ : Chk)).toArray⟩, by simp⟩
      exact ⟨S, 0, (enc_yes sa0.cut sb0.cut f0 h HS).out, fun W hW => R7.encode_yes g0 e0 l0 v0 A0 (cut20 m0) p0 B0 (cut20 k0) q0 (o0.take 20) (n0.take 20) S W (sa0.cut.later hW) (sb0.cut.later hW) f0 h HS⟩
  exact told g0 e0 l0 v0 A0 m0 p0 B0 k0 q0 o0 n0 s t w hg0 he0 hl0 hv0 sa0 sb0 hm0 hp0 T ET hsz U EU htz (Lib.hid (fun w => decode_any T w zT)) (Lib.hid (fun w => R7.decode_any T w zT)) (Lib.hid (fun w => best_any T U w zT zU)) (Lib.hid (fun w => R7.best_any T U w zT zU)) S y (Lib.hid E0) (Lib.hid X0) _
    (Lib.hid (fun W hW => right_is g0 e0 l0 v0 A0 (cut20 m0) p0 B0 (cut20 k0) q0 (o0.take 20) (n0.take 20) _ W (sa0.cut.later hW) (sb0.cut.later hW) (cut20_le _) hg0.1 hl0.1 rfl))
    (Lib.hid (fun W hW => R7.right_is g0 e0 l0 v0 A0 (cut20 m0) p0 B0 (cut20 k0) q0 (o0.take 20) (n0.take 20) _ W (sa0.cut.later hW) (sb0.cut.later hW) (cut20_le _) hg0.1 hl0.1 rfl))
    g1 e1 l1 v1 o1 n1 _ (Lib.hid ⟨h1, rfl⟩) g2 e2 l2 v2 o2 n2 _ _ (Lib.hid ⟨h2, rfl, rfl⟩) (Lib.hid ⟨L1, L2⟩)

set_option maxRecDepth 100000 in
theorem lifted (os : Os) (started : os.Started) (H : Type) (enc : TypeId × Value → H) :
    ReturnsInHanded {} Try.checked os 3 .any (Rows.ckptTellsSpec.pre6 enc Try.prog Try.f3 Rows.ckptTellsRow.domain false) (Rows.ckptTellsSpec.post enc Try.prog Try.f3 false true false false) := by
  refine returnsInHanded_of_change (C := Try.checked) own started (by kernel_rfl) Try.func3
    (ChangeSpec.witness6 (enc := enc) (C := Try.checked) false ⟨#[], #[.agg #[.int .u64 0, .int .u32 0, .int .u64 0, .int .u64 0, .slice none 0 0, .slice none 0 0], .string ByteArray.empty, .string ByteArray.empty], []⟩ 8 (by kernel_rfl) (by kernel_rfl) (by kernel_rfl) (by kernel_rfl)) ?_
  intro W base args ds gs before hval0 hW hcnd _
  have hval : ∀ (j : Nat) t v, Try.f3.params[j]? = some t → args[j]? = some v → Value.okWide Try.prog W .any base t v := hval0
  have hW' := hW
  obtain ⟨p, q, hA0, hV, rfl, hfz, hnd⟩ := hW
  have hA : DataW.TrodAll enc Try.prog W 0 (fun _ => true) true Try.f3.params.toList args.toList ds p := hA0
  rw [Try.params3] at hA hval
  obtain ⟨v0, vs0, d0, ds0, p0, q0, hargs, rfl, rfl, h0, r0⟩ := trodAll_cons hA
  obtain ⟨v1, vs1, d1, ds1, p1, q1, rfl, rfl, rfl, h1, r1⟩ := trodAll_cons r0
  obtain ⟨v2, vs2, d2, ds2, p2, q2, rfl, rfl, rfl, h2, r2⟩ := trodAll_cons r1
  obtain ⟨rfl, rfl, rfl⟩ := trodAll_nil r2
  obtain rfl : args = #[v0, v1, v2] := by cases args; simp_all
  obtain ⟨rfl, rfl⟩ := trodVars_none hV
  obtain ⟨g0, e0, l0, v0, A0, m0, p0, B0, k0, q0, o0, n0, rfl, hg0, he0, hl0, hv0, sa0, sb0, hm0, hp0⟩ := open_chk (hval 0 26 v0 rfl rfl) h0
  obtain ⟨a1, rfl, rfl, rfl, w1⟩ := open_string Try.underlying9 (hval 1 9 v1 rfl rfl) h1
  obtain ⟨a2, rfl, rfl, rfl, w2⟩ := open_string Try.underlying9 (hval 2 9 v2 rfl rfl) h2
  clear hA0 hval0
  try simp only [List.append_nil] at hW'
  try simp only [List.nil_append] at hW'
  have hlt := fun x hx => hW'.lt x hx
  refine (walk g0 e0 l0 v0 A0 m0 p0 B0 k0 q0 o0 n0 a1 a2 W hg0 he0 hl0 hv0 sa0 sb0 hm0 hp0 w1 w2).mono fun e W' ⟨he, hg⟩ => ?_
  subst he
  refine ⟨_, rfl, post_mem hW' (fun _ _ _ => (trodAll_cons_mk (shut_bool Try.underlying4 _) trodAll_mk0)) (fun sp hsp => ?_) (fun _ => rfl) hg (ok_one (by kernel_rfl) rfl (okWide_bool_mk Try.underlying4 _))⟩
  have hall := (trodAll_cons_mk (arg_same (sp := sp) laid (by kernel_rfl) (of_decide_eq_true (by kernel_rfl)) h0 hg (by intro x hx; simp_all) hlt hsp) (trodAll_cons_mk (arg_same (sp := sp) laid (by kernel_rfl) (of_decide_eq_true (by kernel_rfl)) h1 hg (by intro x hx; simp_all) hlt hsp) (trodAll_cons_mk (arg_same (sp := sp) laid (by kernel_rfl) (of_decide_eq_true (by kernel_rfl)) h2 hg (by intro x hx; simp_all) hlt hsp) trodAll_mk0)))
  try simp only [List.append_nil] at hall
  try simp only [List.nil_append] at hall
  exact hall

theorem over : Rows.ckptTellsRow.holds Try.pinned (OpenSpec.ofChange Rows.ckptTellsSpec) :=
  OpenClaim.holds_of_wide 3 Try.f3 rfl rfl rfl rfl rfl rfl rfl ⟨rfl, rfl, rfl, rfl, rfl⟩ rfl rfl rfl rfl rfl (by kernel_rfl) Try.func3 (by kernel_rfl)
    (of_decide_eq_true (by kernel_rfl)) (by unfold Func.isWrapper; first | (rw [if_pos (by decide +kernel)]; kernel_rfl) | (rw [if_neg (by decide +kernel)]; exact ⟨rfl, rfl⟩))
    (fun os started H enc _ => lifted os started H enc)

theorem proved : Rows.CkptTellsSaid := over
#print axioms proved
end Go.Proofs.Ytdnkhjikfdalbaa.ckptTells
