/- Contracts of the statements' own Cut and Ref, and of the document's Zero, Ints and Same: a checkpoint with its lists cut; whether two are the same. -/
import Derived.Test.YtdnkhjikfdalbaaCpF
namespace Go.Proofs.Ytdnkhjikfdalbaa
open Go.RowKit Go.Lib Wd Cr
set_option linter.unusedVariables false

def zeroTo (k : Nat) : ByteArray := ⟨Array.replicate k (0 : UInt8)⟩
theorem zeroTo_succ (k : Nat) : zeroTo k ++ ⟨#[0]⟩ = zeroTo (k + 1) := by
  apply ByteArray.ext
  rw [ByteArray.data_append]
  show Array.replicate k (0 : UInt8) ++ #[0] = Array.replicate (k + 1) 0
  rw [Array.replicate_succ]
  rfl
theorem zeroTo_size (k : Nat) : (zeroTo k).size = k := by simp [zeroTo, ByteArray.size]

set_option maxHeartbeats 1000000 in
theorem zero_any (w : World) : Calls Try.prog 21 #[] w fun e w' => e = .returned (.string (zeroTo 128)) ∧ w = w' := by
  go_enter Try.func21, Try.ntmps21
  go_wp2
  go_loop [1, 2] (fun t i => ∃ k : Nat, k ≤ 128 ∧ i = .int .i64 k ∧ t = .string (zeroTo k)) (fun _ i => 128 - (Lib.intOf i).toNat)
  case atStart => exact ⟨0, by omega, rfl, rfl⟩
  case round =>
    obtain ⟨k, hk, rfl, rfl⟩ := hrel
    have hz := zeroTo_size k
    have hzs := zeroTo_succ k
    by_cases hlt : k < 128
    · have hlz : (k : Int) < 128 := by omega
      go_wp2
      go_round
      case rel => exact ⟨k + 1, by omega, by go_num, by rw [← hzs]⟩
      case measure => simp [Lib.intOf]; omega
    · obtain rfl : k = 128 := by omega
      clear hz hzs
      go_wp2
      go_ret
      exact ⟨rfl, rfl⟩


/-! The document's own checkpoints, in memory. -/
theorem info_r : (Try.prog.info? 32).map (·.size) = some 6 := by kernel_rfl
section
variable {ops : Array Oper} {rest : List Oper} {o : Oper} {a : Act} {w : World} {Q : Exit → Act → World → Prop}
theorem load_r (hgd : o.guard = none) (x : Operand) (ho : o.op = .load 32 x) (b : Nat) (hx : a.eval x = .pointer (some ⟨b, 0, none⟩)) {g e l v : Int} {A : Option Addr} {m p : Nat} {B : Option Addr} {k q : Nat} {t : TypeId} (hg : Blk w b t (csC g e l v A m p B k q))
    (h : wpList Try.prog ops Q rest (a.put o.dst (.agg #[.int .u64 g, .int .u32 e, .int .u64 l, .int .u64 v, .slice A m p, .slice B k q])) w) : wpList Try.prog ops Q (o :: rest) a w :=
  wpList_load_row hgd _ x ho b hx _ (csC g e l v A m p B k q) (0, 0) _ hg Try.underlying32 rfl info_r h
theorem store_r (hgd : o.guard = none) (x y : Operand) (ho : o.op = .store 32 x y) (b : Nat) (hx : a.eval x = .pointer (some ⟨b, 0, none⟩)) {g e l v : Int} {A : Option Addr} {m p : Nat} {B : Option Addr} {k q : Nat} (hy : a.eval y = .agg #[.int .u64 g, .int .u32 e, .int .u64 l, .int .u64 v, .slice A m p, .slice B k q]) {g0 e0 l0 v0 : Int} {A0 : Option Addr} {m0 p0 : Nat} {B0 : Option Addr} {k0 q0 : Nat} {t : TypeId} (hg : Blk w b t (csC g0 e0 l0 v0 A0 m0 p0 B0 k0 q0))
    (h : wpList Try.prog ops Q rest (a.put o.dst undef) (w.setRow b (csC g e l v A m p B k q))) : wpList Try.prog ops Q (o :: rest) a w :=
  wpList_store_row hgd _ x y ho b (csC g e l v A m p B k q) hx hy _ _ hg info_r rfl (csC_one g e l v A m p B k q) h
end
theorem res_r1 {fn : Func} {p' : Tmp} (h : fn.results = #[.cell p' 32]) (tmps : Array Value) (W : World) (b : Nat) {g e l v : Int} {A : Option Addr} {m p : Nat} {B : Option Addr} {k q : Nat} {t : TypeId} (hp : tmps.getD p' undef = .pointer (some ⟨b, 0, none⟩)) (L : Blk W b t (csC g e l v A m p B k q)) :
    (results fn tmps).run Try.prog W = .ok (.agg #[.int .u64 g, .int .u32 e, .int .u64 l, .int .u64 v, .slice A m p, .slice B k q]) W :=
  results_cell_row h tmps W b t (csC g e l v A m p B k q) (0, 0) _ hp L Try.underlying32 rfl info_r

theorem ref_any (g e l v : Int) (A : Option Addr) (m p : Nat) (B : Option Addr) (k q : Nat) (w : World) : Calls Try.prog 12 #[.agg #[.int .u64 g, .int .u32 e, .int .u64 l, .int .u64 v, .slice A m p, .slice B k q]] w fun e' w' => e' = .returned (.agg #[.int .u64 g, .int .u32 e, .int .u64 l, .int .u64 v, .slice A m p, .slice B k q]) ∧ Below w.heap.size w w' := by
  have hb : Below w.heap.size w ((w.alloc (.cells #[.int .u64 g, .int .u32 e, .int .u64 l, .int .u64 v, .slice A m p, .slice B k q] 26)).alloc (.cells #[.int .u64 0, .int .u32 0, .int .u64 0, .int .u64 0, .slice none 0 0, .slice none 0 0] 32)) := Wd.Ge.trans (below1 _ _) (below1 _ _)
  have K0 : Blk ((w.alloc (.cells #[.int .u64 g, .int .u32 e, .int .u64 l, .int .u64 v, .slice A m p, .slice B k q] 26)).alloc (.cells #[.int .u64 0, .int .u32 0, .int .u64 0, .int .u64 0, .slice none 0 0, .slice none 0 0] 32)) (w.heap.size + 1) 32 (csC 0 0 0 0 none 0 0 none 0 0) := blk_new _ _ _ _ (by simp)
  have HK := Lib.hid K0
  have HB := Lib.hid hb
  clear K0 hb
  go_enter Try.func12, Try.ntmps12
  go_wp2_with (with_reducible refine store_r rfl (.tmp 2) (.tmp 15) rfl (w.heap.size + 1) rfl rfl HK.out ?_)
  exact bodyPost_ret (res_r1 rfl _ _ (w.heap.size + 1) rfl (HK.out.row _)) rfl ⟨rfl, below_row HB.out (by omega) _⟩

/-- How many numbers are left of a list. -/
def cut20 (m : Nat) : Nat := min m 20
theorem Sl.cut {W : World} {A : Option Addr} {m : Nat} {o : List Int} (h : Sl W A m o) : Sl W A (cut20 m) (o.take 20) := by
  unfold cut20
  refine ⟨by rw [List.length_take, ← h.len]; omega, fun hn => ?_⟩
  obtain ⟨b, f, e, hlt, hc⟩ := h.cells (by omega)
  refine ⟨b, f, e, hlt, fun j hj => ?_⟩
  rw [hc j (by omega)]
  simp only [nth]
  rw [List.getD_eq_getElem?_getD, List.getD_eq_getElem?_getD, List.getElem?_take_of_lt (by omega)]

set_option maxHeartbeats 1000000 in
theorem lawcut_any (g e l v : Int) (A : Option Addr) (m p : Nat) (B : Option Addr) (k q : Nat) (w : World) (hm : m ≤ maxLen) (hk : k ≤ maxLen) (hp : m ≤ p) (hq : k ≤ q) :
    Calls Try.prog 9 #[.agg #[.int .u64 g, .int .u32 e, .int .u64 l, .int .u64 v, .slice A m p, .slice B k q]] w fun e' w' => e' = .returned (.agg #[.int .u64 g, .int .u32 e, .int .u64 l, .int .u64 v, .slice A (cut20 m) p, .slice B (cut20 k) q]) ∧ Below w.heap.size w w' := by
  unfold maxLen at hm hk
  have E1 := Lib.hid (show (min (m : Int) 20).toNat = cut20 m by unfold cut20; omega)
  have E2 := Lib.hid (show (min (k : Int) 20).toNat = cut20 k by unfold cut20; omega)
  have d1 : min (m : Int) 20 ≤ (p : Int) := by omega
  have d2 : min (k : Int) 20 ≤ (q : Int) := by omega
  have d3 : 0 ≤ min (m : Int) 20 := by omega
  have d4 : 0 ≤ min (k : Int) 20 := by omega
  generalize cut20 m = m2 at *
  generalize cut20 k = k2 at *
  go_enter Try.func9, Try.ntmps9
  go_wp2_with fail
  rw [E1.out, E2.out]
  have L := blk_new (w.alloc (.cells #[.int .u64 g, .int .u32 e, .int .u64 l, .int .u64 v, .slice A m2 p, .slice B k2 q] 26)) 26 (csC g e l v A m2 p B k2 q) (w.heap.size + 1) (by simp)
  exact bodyPost_ret (res_c1 rfl _ _ (w.heap.size + 1) rfl L) rfl ⟨rfl, Wd.Ge.trans (below1 _ _) (below1 _ _)⟩

set_option maxHeartbeats 1000000 in
theorem ints_any (A : Option Addr) (m p : Nat) (B : Option Addr) (k q : Nat) (o n : List Int) (w : World) (hA : Sl w A m o) (hB : Sl w B k n) (hm : m ≤ maxLen) :
    Calls Try.prog 31 #[.slice A m p, .slice B k q] w fun e w' => e = .returned (.bool (decide (o = n))) ∧ Below w.heap.size w w' := by
  unfold maxLen at hm
  have ho := Lib.hid hA.len
  have hn := Lib.hid hB.len
  by_cases hmk : k = m
  case neg =>
    have h4 : ((m : Int) != (k : Int)) = true := by simp; omega
    have hd : decide (o = n) = false := decide_eq_false (fun e => hmk (by rw [ho.out, hn.out, e]))
    rw [hd]
    go_enter Try.func31, Try.ntmps31
    go_wp2_with fail
    go_ret
    exact ⟨rfl, Below.refl _ _⟩
  case pos =>
  subst hmk
  by_cases hz : k = 0
  · subst hz
    have h1 := List.length_eq_zero_iff.1 ho.out.symm
    have h2 := List.length_eq_zero_iff.1 hn.out.symm
    subst h1 h2
    go_enter Try.func31, Try.ntmps31
    go_wp2_with fail
    refine wp_loop_rounds 1 ?_
    rw [rounds_succ]
    go_wp2_with fail
    go_ret
    exact ⟨rfl, Below.refl _ _⟩
  obtain ⟨ba, oa, rfl, hba, ca⟩ := hA.cells (by omega)
  obtain ⟨bb, ob, rfl, hbb, cb⟩ := hB.cells (by omega)
  have CA := Lib.hid ca
  have CB := Lib.hid cb
  have h4 : ((k : Int) != (k : Int)) = false := by simp
  clear ca cb hA hB
  go_enter Try.func31, Try.ntmps31
  go_wp2_with fail
  go_loopg [5] k (fun gk s5 wr => ∃ i : Nat, i ≤ k ∧ gk = k - i ∧ s5 = .int .i64 i ∧ Hid (Below w.heap.size w wr) ∧ Hid (o.take i = n.take i))
  case atStart => exact ⟨0, by omega, rfl, rfl, Lib.hid (Below.refl _ _), Lib.hid (by simp)⟩
  case round =>
    obtain ⟨i, hi, hgk, rfl, HB, HT⟩ := hrel
    have HG := Lib.hid hgk
    clear hgk
    by_cases hlt : i < k
    · have hlti : (i : Int) < (k : Int) := by omega
      have hoi : i < o.length := by have := ho.out; omega
      have hni : i < n.length := by have := hn.out; omega
      have c1 := ((bcell HB.out).1 ba (oa + i) hba).trans (CA.out i hlt)
      have c2 := ((bcell HB.out).1 bb (ob + i) hbb).trans (CB.out i hlt)
      obtain ⟨x, X⟩ : ∃ x, Hid (nth o i = x) := ⟨_, rfl⟩
      obtain ⟨y, Y⟩ : ∃ y, Hid (nth n i = y) := ⟨_, rfl⟩
      simp only [X.out] at c1
      simp only [Y.out] at c2
      have HB2 := Lib.hid (Wd.Ge.trans HB.out (below_drawn _))
      by_cases hxy : x = y
      · subst hxy
        have HT2 : Hid (o.take (i + 1) = n.take (i + 1)) := Lib.hid (by rw [take_nth hoi, take_nth hni, HT.out, X.out, Y.out])
        go_wp2_with fail
        go_region
        go_wp2_with fail
        go_roundg (k - (i + 1))
        case measure => have := HG.out; omega
        case rel => exact ⟨i + 1, by omega, rfl, by go_num, HB2, HT2⟩
      · have hd : decide (o = n) = false := decide_eq_false (fun e => hxy (by rw [← X.out, ← Y.out, e]))
        have HD := Lib.hid hd
        have hne : (x != y) = true := by simp; exact hxy
        clear hd
        go_wp2_with fail
        go_region
        go_wp2_with fail
        go_ret
        exact ⟨ret_bool HD.out.symm, HB2.out⟩
    · obtain rfl : i = k := by omega
      have hlti : ¬ (i : Int) < (i : Int) := by omega
      have hd : decide (o = n) = true := by
        rw [decide_eq_true_iff]
        have := HT.out
        rw [List.take_of_length_le (by have := ho.out; omega), List.take_of_length_le (by have := hn.out; omega)] at this
        exact this
      have HD := Lib.hid hd
      clear hd
      go_wp2_with fail
      go_ret
      exact ⟨ret_bool HD.out.symm, HB.out⟩

theorem ints_is (A : Option Addr) (m p : Nat) (B : Option Addr) (k q : Nat) (o n : List Int) (b : Bool) (w : World) (hA : Sl w A m o) (hB : Sl w B k n) (hm : m ≤ maxLen) (hb : decide (o = n) = b) :
    Calls Try.prog 31 #[.slice A m p, .slice B k q] w fun e w' => e = .returned (.bool b) ∧ Below w.heap.size w w' := by
  subst hb; exact ints_any A m p B k q o n w hA hB hm

set_option maxHeartbeats 2000000 in
/-- Same: whether two checkpoints are the same. -/
theorem same_is (g0 e0 l0 v0 : Int) (A0 : Option Addr) (m0 p0 : Nat) (B0 : Option Addr) (k0 q0 : Nat) (g1 e1 l1 v1 : Int) (A1 : Option Addr) (m1 p1 : Nat) (B1 : Option Addr) (k1 q1 : Nat) (o0 n0 o1 n1 : List Int) (b : Bool) (w : World) (hA0 : Sl w A0 m0 o0) (hB0 : Sl w B0 k0 n0) (hA1 : Sl w A1 m1 o1) (hB1 : Sl w B1 k1 n1) (hm : m0 ≤ maxLen) (hk : k0 ≤ maxLen) (hb : decide ((⟨g0, e0, l0, v0, o0, n0⟩ : Chk) = ⟨g1, e1, l1, v1, o1, n1⟩) = b) :
    Calls Try.prog 19 #[.agg #[.int .u64 g0, .int .u32 e0, .int .u64 l0, .int .u64 v0, .slice A0 m0 p0, .slice B0 k0 q0], .agg #[.int .u64 g1, .int .u32 e1, .int .u64 l1, .int .u64 v1, .slice A1 m1 p1, .slice B1 k1 q1]] w fun e' w' => e' = .returned (.bool b) ∧ Below w.heap.size w w' := by
  have HB := Lib.hid (show Below w.heap.size w ((w.alloc (.cells #[.int .u64 g0, .int .u32 e0, .int .u64 l0, .int .u64 v0, .slice A0 m0 p0, .slice B0 k0 q0] 32)).alloc (.cells #[.int .u64 g1, .int .u32 e1, .int .u64 l1, .int .u64 v1, .slice A1 m1 p1, .slice B1 k1 q1] 32)) from Wd.Ge.trans (below1 _ _) (below1 _ _))
  have hw := Wd.Ge.trans (below1 w (.cells #[.int .u64 g0, .int .u32 e0, .int .u64 l0, .int .u64 v0, .slice A0 m0 p0, .slice B0 k0 q0] 32)) (below1 _ (.cells #[.int .u64 g1, .int .u32 e1, .int .u64 l1, .int .u64 v1, .slice A1 m1 p1, .slice B1 k1 q1] 32))
  have L0 := (layC g0 e0 l0 v0 A0 m0 p0 B0 k0 q0 32 w).later (below1 _ (.cells #[.int .u64 g1, .int .u32 e1, .int .u64 l1, .int .u64 v1, .slice A1 m1 p1, .slice B1 k1 q1] 32))
  have L1 := layC g1 e1 l1 v1 A1 m1 p1 B1 k1 q1 32 (w.alloc (.cells #[.int .u64 g0, .int .u32 e0, .int .u64 l0, .int .u64 v0, .slice A0 m0 p0, .slice B0 k0 q0] 32))
  rw [show (w.alloc (.cells #[.int .u64 g0, .int .u32 e0, .int .u64 l0, .int .u64 v0, .slice A0 m0 p0, .slice B0 k0 q0] 32)).heap.size = w.heap.size + 1 by simp] at L1
  have D0 := Lib.hid (fun b hb => ints_is A0 m0 p0 A1 m1 p1 o0 o1 b _ (hA0.later hw) (hA1.later hw) hm hb)
  have D1 := Lib.hid (fun W (hW : Below w.heap.size w W) b hb => ints_is B0 k0 q0 B1 k1 q1 n0 n1 b W (hB0.later hW) (hB1.later hW) hk hb)
  have H0 := Lib.hid L0
  have H1 := Lib.hid L1
  have HH := Lib.hid hb
  clear hb hA0 hA1 hB0 hB1 hw L0 L1
  by_cases h1 : g0 = g1
  case neg =>
    obtain rfl : false = b := by rw [← HH.out, decide_eq_false]; simp [h1]
    have q : (g0 == g1) = false := by simp [h1]
    go_enter Try.func19, Try.ntmps19
    go_wp2_with fail
    go_ret
    exact ⟨rfl, HB.out⟩
  by_cases h2 : e0 = e1
  case neg =>
    obtain rfl : false = b := by rw [← HH.out, decide_eq_false]; simp [h2]
    have q : (e0 == e1) = false := by simp [h2]
    subst h1
    go_enter Try.func19, Try.ntmps19
    go_wp2_with fail
    go_ret
    exact ⟨rfl, HB.out⟩
  by_cases h3 : l0 = l1
  case neg =>
    obtain rfl : false = b := by rw [← HH.out, decide_eq_false]; simp [h3]
    have q : (l0 == l1) = false := by simp [h3]
    subst h1 h2
    go_enter Try.func19, Try.ntmps19
    go_wp2_with fail
    go_ret
    exact ⟨rfl, HB.out⟩
  by_cases h4 : v0 = v1
  case neg =>
    obtain rfl : false = b := by rw [← HH.out, decide_eq_false]; simp [h4]
    have q : (v0 == v1) = false := by simp [h4]
    subst h1 h2 h3
    go_enter Try.func19, Try.ntmps19
    go_wp2_with fail
    go_ret
    exact ⟨rfl, HB.out⟩
  subst h1 h2 h3 h4
  by_cases h5 : o0 = o1
  case neg =>
    obtain rfl : false = b := by rw [← HH.out, decide_eq_false]; simp [h5]
    go_enter Try.func19, Try.ntmps19
    go_wp2_with fail
    refine (D0.out false (decide_eq_false h5)).mono ?_
    rintro e' w1 ⟨rfl, hb⟩
    go_wp2_with fail
    go_ret
    exact ⟨rfl, Wd.Ge.trans HB.out hb⟩
  obtain rfl : decide (n0 = n1) = b := by
    rw [← HH.out]
    subst h5
    simp
  obtain ⟨b, Hb⟩ : ∃ b, Hid (decide (n0 = n1) = b) := ⟨_, Lib.hid rfl⟩
  rw [Hb.out]
  have HO := Lib.hid h5
  clear h5 HH
  go_enter Try.func19, Try.ntmps19
  go_wp2_with fail
  refine (D0.out true (decide_eq_true HO.out)).mono ?_
  rintro e' w1 ⟨rfl, hb⟩
  have B1 := Wd.Ge.trans HB.out hb
  have c5 := (H0.out.later hb).c5
  have c5' := (H1.out.later hb).c5
  have BB := Lib.hid B1
  clear B1 hb
  go_wp2_with fail
  refine (D1.out _ BB.out b Hb.out).mono ?_
  rintro e' w2 ⟨rfl, hb⟩
  go_wp2_with fail
  go_ret
  exact ⟨rfl, Wd.Ge.trans BB.out hb⟩

end Go.Proofs.Ytdnkhjikfdalbaa
