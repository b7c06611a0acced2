/- Contracts of ckpt's Decode and Best, for every text: the checkpoint whose sector it is, or none; the best of two; no memory that was there is changed. -/
import Derived.Test.YtdnkhjikfdalbaaCpE
import Derived.Defers
import Derived.Recover
namespace Go.Proofs.Ytdnkhjikfdalbaa
open Go.RowKit Go.Lib Wd Cr
set_option linter.unusedVariables false

theorem blk_set {w : World} {g : Nat} {t : TypeId} {cs : Array Value} (h : Blk w g t cs) (i : Nat) (u : Value) : Blk (w.setCell ⟨g, i, none⟩ u) g t (cs.setIfInBounds i u) := by
  unfold Blk at h ⊢
  simp [World.setCell, h, Array.getElem?_modify]

theorem catch_idle (p q : Addr) (w : World) :
    CallsD Try.prog 28 #[.pointer (some p), .pointer (some q)] .returning w fun e u' w' => e = .returned (.tuple #[]) ∧ u' = .returning ∧ w' = w := by
  refine callsD_of_wpS Try.func28 rfl fun c₀ cs hu => ?_
  apply wpS_seq
  apply wpS_region
  simp [wpOpsS, go_sem, recoverD, hu, Try.ntmps28, Exit.thenS]
  refine wpS_of_wp ?_
  rw [show #[Value.pointer (some p), Value.pointer (some q)] ++ ((Array.replicate 5 undef).setIfInBounds 1 Value.nilIface).setIfInBounds 0 Value.nilIface = #[.pointer (some p), .pointer (some q), .nilIface, .nilIface, undef, undef, undef] from rfl]
  go_wp2_with fail
  cases c₀
  simp_all [bodyPostS, results, Try.results28]

theorem catch_panicking (pb qb : Nat) (g e l v : Int) (A : Option Addr) (m p : Nat) (B : Option Addr) (k q : Nat) (y : Int) (w : World) (hp : Blk w pb 26 (csC g e l v A m p B k q)) (hq : Blk w qb 28 #[.int .i64 y]) :
    CallsD Try.prog 28 #[.pointer (some ⟨pb, 0, none⟩), .pointer (some ⟨qb, 0, none⟩)] (.panicking bad) w fun e u' w' =>
      e = .returned (.tuple #[]) ∧ u' = .panicking [{ v := .iface 28 (.int .i64 5), recovered := true }] ∧ w' = (w.setRow pb (csC 0 0 0 0 none 0 0 none 0 0)).setCell ⟨qb, 0, none⟩ (.int .i64 5) := by
  refine callsD_of_wpS Try.func28 rfl fun c₀ cs hu => ?_
  unfold bad at hu
  apply wpS_seq
  apply wpS_region
  simp [wpOpsS, go_sem, recoverD, hu, Try.ntmps28, Exit.thenS]
  refine wpS_of_wp ?_
  rw [show #[Value.pointer (some ⟨pb, 0, none⟩), Value.pointer (some ⟨qb, 0, none⟩)] ++ ((Array.replicate 5 undef).setIfInBounds 1 (Value.iface 28 (.int .i64 5))).setIfInBounds 0 (Value.iface 28 (.int .i64 5)) = #[.pointer (some ⟨pb, 0, none⟩), .pointer (some ⟨qb, 0, none⟩), .iface 28 (.int .i64 5), .iface 28 (.int .i64 5), undef, undef, undef] from rfl]
  have hne : pb ≠ qb := fun e => by
    subst e
    unfold Blk at hp hq
    rw [hp] at hq
    injection hq with hq
    injection hq with _ hq
    exact absurd hq (by decide)
  have hq2 := hq.far hne (csC 0 0 0 0 none 0 0 none 0 0)
  have c0 : (w.setRow pb (csC 0 0 0 0 none 0 0 none 0 0)).cell? ⟨qb, 0, none⟩ = some (.int .i64 y) := hq2.cell 0
  have f0 := blk_frozen hq2 0
  go_wp2_with (with_reducible refine store_c rfl (.tmp 0) (.tmp 6) rfl pb rfl rfl hp ?_)
  cases c₀
  simp_all [bodyPostS, results, Try.results28]

/-- What Decode tells. -/
def DecP (s : ByteArray) (w : World) (e : Ending) (w' : World) : Prop :=
  Below w.heap.size w w' ∧ ∃ x, e = .returned (.tuple #[x, .int .i64 (decE s.data.toList)]) ∧ NewChk w.heap.size w' x (decC s.data.toList)

theorem res_c2 {fn : Func} {p' q' : Tmp} (h : fn.results = #[.cell p' 26, .cell q' 28]) (tmps : Array Value) (W : World) (b b' : Nat) {g e l v : Int} {A : Option Addr} {m p : Nat} {B : Option Addr} {k q : Nat} {t : TypeId} {y : Int} (hp : tmps.getD p' undef = .pointer (some ⟨b, 0, none⟩)) (hq : tmps.getD q' undef = .pointer (some ⟨b', 0, none⟩)) (L : Blk W b t (csC g e l v A m p B k q)) (M : W.cell? ⟨b', 0, none⟩ = some (.int .i64 y)) :
    (results fn tmps).run Try.prog W = .ok (.tuple #[.agg #[.int .u64 g, .int .u32 e, .int .u64 l, .int .u64 v, .slice A m p, .slice B k q], .int .i64 y]) W := by
  have hp' : tmps[p']?.getD undef = .pointer (some ⟨b, 0, none⟩) := by simpa using hp
  have hq' : tmps[q']?.getD undef = .pointer (some ⟨b', 0, none⟩) := by simpa using hq
  have h1 : (loadVar 26 ⟨b, 0, none⟩).run Try.prog W = .ok (.agg #[.int .u64 g, .int .u32 e, .int .u64 l, .int .u64 v, .slice A m p, .slice B k q]) W := run_loadVar_row W b t 26 (csC g e l v A m p B k q) (0, 0) _ L Try.underlying26 rfl info_c
  have h2 : (loadVar 28 ⟨b', 0, none⟩).run Try.prog W = .ok (.int .i64 y) W := by
    simp [go_sem, M]
  simp [results, h, hp', hq', asAddr, h1, h2]

set_option maxHeartbeats 1000000 in
theorem decode_any (s : ByteArray) (w : World) (hs : s.size ≤ maxLen) : Calls Try.prog 13 #[.string s] w (DecP s w) := by
  have hmf : ∀ (fn : Fn) (first cap : Array Value) (w : World), (Instr.makeFunc fn first cap).run Try.prog w = .ok (.func fn first cap) w := fun _ _ _ _ => rfl
  have C := Lib.hid (fun w => read_any s w hs)
  have K0 : Blk ((w.alloc (.cells #[.int .u64 0, .int .u32 0, .int .u64 0, .int .u64 0, .slice none 0 0, .slice none 0 0] 26)).alloc (.cells #[.int .i64 0] 28)) w.heap.size 26 (csC 0 0 0 0 none 0 0 none 0 0) := (Blk.new w 26 _).later (below1 _ _)
  have N0 : Blk ((w.alloc (.cells #[.int .u64 0, .int .u32 0, .int .u64 0, .int .u64 0, .slice none 0 0, .slice none 0 0] 26)).alloc (.cells #[.int .i64 0] 28)) (w.heap.size + 1) 28 #[.int .i64 0] := blk_new _ _ _ _ (by simp)
  have B0 : Below w.heap.size w ((w.alloc (.cells #[.int .u64 0, .int .u32 0, .int .u64 0, .int .u64 0, .slice none 0 0, .slice none 0 0] 26)).alloc (.cells #[.int .i64 0] 28)) := Wd.Ge.trans (below1 _ _) (below1 _ _)
  have hsz : ((w.alloc (.cells #[.int .u64 0, .int .u32 0, .int .u64 0, .int .u64 0, .slice none 0 0, .slice none 0 0] 26)).alloc (.cells #[.int .i64 0] 28)).heap.size = w.heap.size + 1 + 1 := by simp
  have HK := Lib.hid K0
  have HN := Lib.hid N0
  have HB := Lib.hid B0
  have HS := Lib.hid hsz
  clear K0 N0 B0 hsz
  go_enter_defers Try.func13, Try.ntmps13
  go_wp2_with fail
  refine (C.out _).mono ?_
  rintro e' w1 ⟨hb, ⟨hsec, x, rfl, hx⟩ | ⟨hsec, rfl⟩⟩
  · rw [HS.out] at hx
    have K1 := HK.out.later hb
    have N1 := HN.out.later hb
    have B1 := Wd.Ge.trans HB.out hb
    clear HK HN HB hb C HS
    have hx2 := hx
    obtain ⟨A, m, p, B, k, q, rfl, _⟩ := hx
    obtain ⟨g, e, l, v, EG⟩ : ∃ g e l v, Hid ((cutC s.data.toList).g = g ∧ (cutC s.data.toList).e = e ∧ (cutC s.data.toList).l = l ∧ (cutC s.data.toList).v = v) := ⟨_, _, _, _, Lib.hid ⟨rfl, rfl, rfl, rfl⟩⟩
    rw [EG.out.1, EG.out.2.1, EG.out.2.2.1, EG.out.2.2.2] at hx2 ⊢
    have N2 := N1.far (g' := w.heap.size) (by omega) (csC g e l v A m p B k q)
    have c0 : (w1.setRow w.heap.size (csC g e l v A m p B k q)).cell? ⟨w.heap.size + 1, 0, none⟩ = some (.int .i64 0) := N2.cell 0
    have f0 := blk_frozen N2 0
    have K2 := K1.row (csC g e l v A m p B k q)
    have K3 := far_set K2 (show w.heap.size + 1 ≠ w.heap.size by omega) 0 (.int .i64 0)
    have N3 : ((w1.setRow w.heap.size (csC g e l v A m p B k q)).setCell ⟨w.heap.size + 1, 0, none⟩ (.int .i64 0)).cell? ⟨w.heap.size + 1, 0, none⟩ = some (.int .i64 0) := World.cell?_setCell_same _ _ _ c0
    have B3 := (below_row B1 (Nat.le_refl _) (csC g e l v A m p B k q)).setCell (p := ⟨w.heap.size + 1, 0, none⟩) (show w.heap.size ≤ w.heap.size + 1 by omega) (.int .i64 0)
    have X3 := (((hx2.row (b := w.heap.size) (by omega) (csC g e l v A m p B k q)).set (b := w.heap.size + 1) (by omega) 0 (.int .i64 0)).mono (show w.heap.size ≤ w.heap.size + 1 + 1 by omega))
    have HK1 := Lib.hid K1
    have HK3 := Lib.hid K3
    have HB3 := Lib.hid B3
    have HX3 := Lib.hid X3
    have HN3 := Lib.hid N3
    clear K1 K3 B3 X3 N3 hx2 N1 N2 B1 K2
    go_wp2_with (with_reducible refine store_c rfl (.tmp 2) (.tmp 6) rfl w.heap.size rfl rfl HK1.out ?_)
    refine leaves_cons (f := 28) (args := #[.pointer (some ⟨w.heap.size, 0, none⟩), .pointer (some ⟨w.heap.size + 1, 0, none⟩)]) (by simp) (by simp [go_sem]) ?_
    refine (catch_idle ⟨w.heap.size, 0, none⟩ ⟨w.heap.size + 1, 0, none⟩ _).mono ?_
    rintro e' u' w'' ⟨rfl, rfl, rfl⟩
    refine ⟨_, res_c2 rfl _ _ w.heap.size (w.heap.size + 1) rfl rfl HK3.out HN3.out, HB3.out, .agg #[.int .u64 g, .int .u32 e, .int .u64 l, .int .u64 v, .slice A m p, .slice B k q], ?_, ?_⟩
    · rw [(dec_yes hsec).2]
    · rw [(dec_yes hsec).1]; exact HX3.out
  · have K1 := HK.out.later hb
    have N1 := HN.out.later hb
    have B1 := Wd.Ge.trans HB.out hb
    go_wp2_with fail
    refine leaves_cons (f := 28) (args := #[.pointer (some ⟨w.heap.size, 0, none⟩), .pointer (some ⟨w.heap.size + 1, 0, none⟩)]) (by simp) (by simp [go_sem]) ?_
    refine (catch_panicking w.heap.size (w.heap.size + 1) _ _ _ _ _ _ _ _ _ _ 0 _ K1 N1).mono ?_
    rintro e' u' w'' ⟨rfl, rfl, rfl⟩
    have N2 := N1.far (g' := w.heap.size) (by omega) (csC 0 0 0 0 none 0 0 none 0 0)
    have K3 := far_set (K1.row (csC 0 0 0 0 none 0 0 none 0 0)) (show w.heap.size + 1 ≠ w.heap.size by omega) 0 (.int .i64 5)
    have N3 : ((w1.setRow w.heap.size (csC 0 0 0 0 none 0 0 none 0 0)).setCell ⟨w.heap.size + 1, 0, none⟩ (.int .i64 5)).cell? ⟨w.heap.size + 1, 0, none⟩ = some (.int .i64 5) := World.cell?_setCell_same _ _ _ (N2.cell 0)
    have B3 := (below_row B1 (Nat.le_refl _) (csC 0 0 0 0 none 0 0 none 0 0)).setCell (p := ⟨w.heap.size + 1, 0, none⟩) (show w.heap.size ≤ w.heap.size + 1 by omega) (.int .i64 5)
    refine ⟨_, res_c2 rfl _ _ w.heap.size (w.heap.size + 1) rfl rfl K3 N3, B3, .agg #[.int .u64 0, .int .u32 0, .int .u64 0, .int .u64 0, .slice none 0 0, .slice none 0 0], ?_, ?_⟩
    · rw [(dec_no hsec).2]
    · rw [(dec_no hsec).1]; exact zero_new _ _

/-- What Best tells. -/
def BestP (s t : ByteArray) (w : World) (e : Ending) (w' : World) : Prop :=
  Below w.heap.size w w' ∧ ∃ x, e = .returned (.tuple #[x, .int .i64 (bestI s.data.toList t.data.toList : Nat), .int .i64 (bestE s.data.toList t.data.toList)]) ∧ NewChk w.heap.size w' x (bestC s.data.toList t.data.toList)

theorem res_c3 {fn : Func} {p' q' r' : Tmp} (h : fn.results = #[.cell p' 26, .tmp q', .tmp r']) (tmps : Array Value) (W : World) (b : Nat) {g e l v : Int} {A : Option Addr} {m p : Nat} {B : Option Addr} {k q : Nat} {t : TypeId} {y z : Value} (hp : tmps.getD p' undef = .pointer (some ⟨b, 0, none⟩)) (hq : tmps.getD q' undef = y) (hr : tmps.getD r' undef = z) (L : Blk W b t (csC g e l v A m p B k q)) :
    (results fn tmps).run Try.prog W = .ok (.tuple #[.agg #[.int .u64 g, .int .u32 e, .int .u64 l, .int .u64 v, .slice A m p, .slice B k q], y, z]) W := by
  have hp' : tmps[p']?.getD undef = .pointer (some ⟨b, 0, none⟩) := by simpa using hp
  have hq' : tmps[q']?.getD undef = y := by simpa using hq
  have hr' : tmps[r']?.getD undef = z := by simpa using hr
  have h1 : (loadVar 26 ⟨b, 0, none⟩).run Try.prog W = .ok (.agg #[.int .u64 g, .int .u32 e, .int .u64 l, .int .u64 v, .slice A m p, .slice B k q]) W := run_loadVar_row W b t 26 (csC g e l v A m p B k q) (0, 0) _ L Try.underlying26 rfl info_c
  simp [results, h, hp', hq', hr', asAddr, h1]

theorem bestE_no {a b : List UInt8} (h : isSec a = false) (h' : isSec b = false) : bestE a b = 5 ∧ bestI a b = 0 ∧ bestC a b = zeroC := by
  unfold bestE bestI bestC
  rw [if_pos ⟨h, h'⟩, (dec_no h).1, (dec_no h').1]
  exact ⟨rfl, rfl, rfl⟩
theorem bestE_yes {a b : List UInt8} (h : ¬ (isSec a = false ∧ isSec b = false)) : bestE a b = 0 := by
  unfold bestE; rw [if_neg h]

set_option maxHeartbeats 2000000 in
set_option maxRecDepth 100000 in
theorem best_any (s t : ByteArray) (w : World) (hs : s.size ≤ maxLen) (ht : t.size ≤ maxLen) : Calls Try.prog 15 #[.string s, .string t] w (BestP s t w) := by
  have C0 := Lib.hid (fun w => decode_any s w hs)
  have C1 := Lib.hid (fun w => decode_any t w ht)
  have Z : Blk (w.alloc (.cells #[.int .u64 0, .int .u32 0, .int .u64 0, .int .u64 0, .slice none 0 0, .slice none 0 0] 26)) w.heap.size 26 (csC 0 0 0 0 none 0 0 none 0 0) := Blk.new w 26 _
  have B := below1 w (.cells #[.int .u64 0, .int .u32 0, .int .u64 0, .int .u64 0, .slice none 0 0, .slice none 0 0] 26)
  obtain ⟨y0, E0⟩ : ∃ y, Hid (decE s.data.toList = y) := ⟨_, Lib.hid rfl⟩
  obtain ⟨y1, E1⟩ : ∃ y, Hid (decE t.data.toList = y) := ⟨_, Lib.hid rfl⟩
  go_enter Try.func15, Try.ntmps15
  go_wp2_with fail
  refine ((C0.out _)).mono ?_
  rintro e' u0 ⟨hb, x0, rfl, hx⟩
  replace B := Wd.Ge.trans B hb
  replace Z := Z.later hb
  have X0 := hx.mono (show w.heap.size + 1 ≤ _ from by simp)
  clear hb hx
  have X0c := X0
  obtain ⟨A0, m0, p0, B0, k0, q0, rfl, _⟩ := X0c
  obtain ⟨g0, EG0⟩ : ∃ g, Hid ((decC s.data.toList).g = g) := ⟨_, Lib.hid rfl⟩
  obtain ⟨e0, EE0⟩ : ∃ g, Hid ((decC s.data.toList).e = g) := ⟨_, Lib.hid rfl⟩
  obtain ⟨l0, EL0⟩ : ∃ g, Hid ((decC s.data.toList).l = g) := ⟨_, Lib.hid rfl⟩
  obtain ⟨v0, EV0⟩ : ∃ g, Hid ((decC s.data.toList).v = g) := ⟨_, Lib.hid rfl⟩
  rw [EG0.out, EE0.out, EL0.out, EV0.out] at X0 ⊢
  rw [E0.out]
  have F0 : Blk (u0.alloc (.cells #[.int .u64 0, .int .u32 0, .int .u64 0, .int .u64 0, .slice none 0 0, .slice none 0 0] 26)) u0.heap.size 26 (csC 0 0 0 0 none 0 0 none 0 0) := Blk.new u0 26 _
  go_upto_region 2 with (with_reducible refine store_c rfl (.tmp 7) (.tmp 14) rfl u0.heap.size rfl rfl F0 ?_; rw [World.setRow_alloc_new])
  have hb := below1 u0 (.cells (csC g0 e0 l0 v0 A0 m0 p0 B0 k0 q0) 26)
  replace B := Wd.Ge.trans B hb
  replace Z := Z.later hb
  replace X0 := X0.later hb
  have N0 : Blk (u0.alloc (.cells (csC g0 e0 l0 v0 A0 m0 p0 B0 k0 q0) 26)) u0.heap.size 26 (csC g0 e0 l0 v0 A0 m0 p0 B0 k0 q0) := Blk.new _ _ _
  have hle0 : w.heap.size + 1 ≤ (u0.alloc (.cells (csC g0 e0 l0 v0 A0 m0 p0 B0 k0 q0) 26)).heap.size := by have := Z.lt; omega
  generalize u0.alloc (.cells (csC g0 e0 l0 v0 A0 m0 p0 B0 k0 q0) 26) = w0 at *
  generalize u0.heap.size = b0 at *
  clear hb F0
  go_wp2_with fail
  refine ((C1.out _)).mono ?_
  rintro e' u1 ⟨hb, x1, rfl, hx⟩
  replace B := Wd.Ge.trans B hb
  replace Z := Z.later hb
  replace X0 := X0.later hb
  replace N0 := N0.later hb
  have hle := hle0
  have X1 := hx.mono (show w.heap.size + 1 ≤ _ from hle)
  clear hb hx
  have X1c := X1
  obtain ⟨A1, m1, p1, B1, k1, q1, rfl, _⟩ := X1c
  obtain ⟨g1, EG1⟩ : ∃ g, Hid ((decC t.data.toList).g = g) := ⟨_, Lib.hid rfl⟩
  obtain ⟨e1, EE1⟩ : ∃ g, Hid ((decC t.data.toList).e = g) := ⟨_, Lib.hid rfl⟩
  obtain ⟨l1, EL1⟩ : ∃ g, Hid ((decC t.data.toList).l = g) := ⟨_, Lib.hid rfl⟩
  obtain ⟨v1, EV1⟩ : ∃ g, Hid ((decC t.data.toList).v = g) := ⟨_, Lib.hid rfl⟩
  rw [EG1.out, EE1.out, EL1.out, EV1.out] at X1 ⊢
  rw [E1.out]
  have F1 : Blk (u1.alloc (.cells #[.int .u64 0, .int .u32 0, .int .u64 0, .int .u64 0, .slice none 0 0, .slice none 0 0] 26)) u1.heap.size 26 (csC 0 0 0 0 none 0 0 none 0 0) := Blk.new u1 26 _
  go_upto_region 3 with (with_reducible refine store_c rfl (.tmp 9) (.tmp 19) rfl u1.heap.size rfl rfl F1 ?_; rw [World.setRow_alloc_new])
  have hb := below1 u1 (.cells (csC g1 e1 l1 v1 A1 m1 p1 B1 k1 q1) 26)
  replace B := Wd.Ge.trans B hb
  replace Z := Z.later hb
  replace X1 := X1.later hb
  have N1 : Blk (u1.alloc (.cells (csC g1 e1 l1 v1 A1 m1 p1 B1 k1 q1) 26)) u1.heap.size 26 (csC g1 e1 l1 v1 A1 m1 p1 B1 k1 q1) := Blk.new _ _ _
  replace X0 := X0.later hb
  replace N0 := N0.later hb
  generalize u1.alloc (.cells (csC g1 e1 l1 v1 A1 m1 p1 B1 k1 q1) 26) = w1 at *
  generalize u1.heap.size = b1 at *
  clear hb F1 hle hle0 C0 C1
  have cg0 : w1.cell? ⟨b0, 0, none⟩ = some (.int .u64 g0) := N0.cell 0
  have cg1 : w1.cell? ⟨b1, 0, none⟩ = some (.int .u64 g1) := N1.cell 0
  have HN0 := Lib.hid N0
  have HN1 := Lib.hid N1
  have HX0 := Lib.hid X0
  have HX1 := Lib.hid X1
  have HZ := Lib.hid Z
  have HB := Lib.hid B
  clear N0 N1 X0 X1 Z B
  cases hsec0 : isSec s.data.toList <;> cases hsec1 : isSec t.data.toList
  case false.false =>
    obtain rfl : 5 = y0 := by rw [← E0.out, (dec_no hsec0).2]
    obtain rfl : 5 = y1 := by rw [← E1.out, (dec_no hsec1).2]
    go_wp2_with (with_reducible refine store_c rfl (.tmp 4) (.tmp 27) rfl w.heap.size rfl rfl HZ.out ?_)
    obtain ⟨h1, h2, h3⟩ := bestE_no hsec0 hsec1
    refine bodyPost_ret (res_c3 rfl _ _ w.heap.size rfl rfl rfl (HZ.out.row _)) rfl ⟨below_row HB.out (Nat.le_refl _) _, .agg #[.int .u64 0, .int .u32 0, .int .u64 0, .int .u64 0, .slice none 0 0, .slice none 0 0], ?_, ?_⟩
    · rw [h1, h2]; rfl
    · rw [h3]; exact zero_new _ _
  all_goals
    have hE := Lib.hid (bestE_yes (a := s.data.toList) (b := t.data.toList) (by rw [hsec0, hsec1]; decide))
  case true.true =>
    obtain rfl : 0 = y0 := by rw [← E0.out, (dec_yes hsec0).2]
    obtain rfl : 0 = y1 := by rw [← E1.out, (dec_yes hsec1).2]
    clear hsec0 hsec1 E0 E1
    by_cases hg : g0 < g1
    · go_wp2_with (first
        | (with_reducible refine load_c rfl (.tmp 9) rfl b1 rfl HN1.out ?_)
        | (with_reducible refine store_c rfl (.tmp 4) (.tmp 33) rfl w.heap.size rfl rfl HZ.out ?_))
      refine bodyPost_ret (res_c3 rfl _ _ w.heap.size rfl rfl rfl (HZ.out.row _)) rfl ⟨below_row HB.out (Nat.le_refl _) _, .agg #[.int .u64 g1, .int .u32 e1, .int .u64 l1, .int .u64 v1, .slice A1 m1 p1, .slice B1 k1 q1], ?_, ?_⟩
      · rw [hE.out]
        unfold bestI
        rw [if_pos (by rw [EG0.out, EG1.out]; exact hg)]
        rfl
      · unfold bestC
        rw [if_pos (by rw [EG0.out, EG1.out]; exact hg)]
        exact (HX1.out.row (by omega) _).mono (by omega)
    · go_wp2_with (first
        | (with_reducible refine load_c rfl (.tmp 7) rfl b0 rfl HN0.out ?_)
        | (with_reducible refine store_c rfl (.tmp 4) (.tmp 34) rfl w.heap.size rfl rfl HZ.out ?_))
      refine bodyPost_ret (res_c3 rfl _ _ w.heap.size rfl rfl rfl (HZ.out.row _)) rfl ⟨below_row HB.out (Nat.le_refl _) _, .agg #[.int .u64 g0, .int .u32 e0, .int .u64 l0, .int .u64 v0, .slice A0 m0 p0, .slice B0 k0 q0], ?_, ?_⟩
      · rw [hE.out]
        unfold bestI
        rw [if_neg (by rw [EG0.out, EG1.out]; omega)]
        rfl
      · unfold bestC
        rw [if_neg (by rw [EG0.out, EG1.out]; omega)]
        exact (HX0.out.row (by omega) _).mono (by omega)
  case true.false =>
    obtain rfl : 0 = y0 := by rw [← E0.out, (dec_yes hsec0).2]
    obtain rfl : 5 = y1 := by rw [← E1.out, (dec_no hsec1).2]
    clear hsec0 hsec1 E0 E1
    by_cases hg : g0 < g1
    · go_wp2_with (first
        | (with_reducible refine load_c rfl (.tmp 9) rfl b1 rfl HN1.out ?_)
        | (with_reducible refine store_c rfl (.tmp 4) (.tmp 33) rfl w.heap.size rfl rfl HZ.out ?_))
      refine bodyPost_ret (res_c3 rfl _ _ w.heap.size rfl rfl rfl (HZ.out.row _)) rfl ⟨below_row HB.out (Nat.le_refl _) _, .agg #[.int .u64 g1, .int .u32 e1, .int .u64 l1, .int .u64 v1, .slice A1 m1 p1, .slice B1 k1 q1], ?_, ?_⟩
      · rw [hE.out]
        unfold bestI
        rw [if_pos (by rw [EG0.out, EG1.out]; exact hg)]
        rfl
      · unfold bestC
        rw [if_pos (by rw [EG0.out, EG1.out]; exact hg)]
        exact (HX1.out.row (by omega) _).mono (by omega)
    · go_wp2_with (first
        | (with_reducible refine load_c rfl (.tmp 7) rfl b0 rfl HN0.out ?_)
        | (with_reducible refine store_c rfl (.tmp 4) (.tmp 34) rfl w.heap.size rfl rfl HZ.out ?_))
      refine bodyPost_ret (res_c3 rfl _ _ w.heap.size rfl rfl rfl (HZ.out.row _)) rfl ⟨below_row HB.out (Nat.le_refl _) _, .agg #[.int .u64 g0, .int .u32 e0, .int .u64 l0, .int .u64 v0, .slice A0 m0 p0, .slice B0 k0 q0], ?_, ?_⟩
      · rw [hE.out]
        unfold bestI
        rw [if_neg (by rw [EG0.out, EG1.out]; omega)]
        rfl
      · unfold bestC
        rw [if_neg (by rw [EG0.out, EG1.out]; omega)]
        exact (HX0.out.row (by omega) _).mono (by omega)
  case false.true =>
    obtain rfl : 5 = y0 := by rw [← E0.out, (dec_no hsec0).2]
    obtain rfl : 0 = y1 := by rw [← E1.out, (dec_yes hsec1).2]
    clear hsec0 hsec1 E0 E1
    by_cases hg : g0 < g1
    · go_wp2_with (first
        | (with_reducible refine load_c rfl (.tmp 9) rfl b1 rfl HN1.out ?_)
        | (with_reducible refine store_c rfl (.tmp 4) (.tmp 33) rfl w.heap.size rfl rfl HZ.out ?_))
      refine bodyPost_ret (res_c3 rfl _ _ w.heap.size rfl rfl rfl (HZ.out.row _)) rfl ⟨below_row HB.out (Nat.le_refl _) _, .agg #[.int .u64 g1, .int .u32 e1, .int .u64 l1, .int .u64 v1, .slice A1 m1 p1, .slice B1 k1 q1], ?_, ?_⟩
      · rw [hE.out]
        unfold bestI
        rw [if_pos (by rw [EG0.out, EG1.out]; exact hg)]
        rfl
      · unfold bestC
        rw [if_pos (by rw [EG0.out, EG1.out]; exact hg)]
        exact (HX1.out.row (by omega) _).mono (by omega)
    · go_wp2_with (first
        | (with_reducible refine load_c rfl (.tmp 7) rfl b0 rfl HN0.out ?_)
        | (with_reducible refine store_c rfl (.tmp 4) (.tmp 34) rfl w.heap.size rfl rfl HZ.out ?_))
      refine bodyPost_ret (res_c3 rfl _ _ w.heap.size rfl rfl rfl (HZ.out.row _)) rfl ⟨below_row HB.out (Nat.le_refl _) _, .agg #[.int .u64 g0, .int .u32 e0, .int .u64 l0, .int .u64 v0, .slice A0 m0 p0, .slice B0 k0 q0], ?_, ?_⟩
      · rw [hE.out]
        unfold bestI
        rw [if_neg (by rw [EG0.out, EG1.out]; omega)]
        rfl
      · unfold bestC
        rw [if_neg (by rw [EG0.out, EG1.out]; omega)]
        exact (HX0.out.row (by omega) _).mono (by omega)

end Go.Proofs.Ytdnkhjikfdalbaa
