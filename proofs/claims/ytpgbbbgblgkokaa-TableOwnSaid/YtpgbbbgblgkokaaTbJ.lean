/- Contracts of table's Roll, Room and Count: what they tell of a table that may be; no memory that was there is changed. -/
import Derived.Test.YtpgbbbgblgkokaaTbI
namespace Go.Proofs.Ytpgbbbgblgkokaa
open Go.RowKit Go.Lib
set_option linter.unusedVariables false

theorem ok_bd {t : Tab} (h : okP t) : (0 ≤ t.sg ∧ t.sg ≤ 16) ∧ (1 ≤ t.o.length ∧ t.o.length ≤ 16) ∧ t.l.length = t.o.length ∧ t.f.length = t.o.length := by
  obtain ⟨h1, h2, h3, h4, h5, h6, h7, h8⟩ := h
  have := free_len (o := t.o) (n := t.sg.toNat) (fun x hx => by have := h4 x hx; omega) h5
  exact ⟨by omega, by omega, h7, h8⟩
theorem ok_full {W : World} {sg st : Int} {A : Option Addr} {m : Nat} {B : Option Addr} {k : Nat} {C : Option Addr} {n : Nat} {o l f : List Int} (h : okP ⟨sg, st, o, l, f⟩) (ht : TIn W A m B k C n o l f) : (Full A m ∧ Full B k ∧ Full C n) ∧ (1 ≤ m ∧ m ≤ 16) ∧ k = m ∧ n = m ∧ (m ≤ maxLen ∧ k ≤ maxLen ∧ n ≤ maxLen) := by
  have hb := ok_bd h
  simp only at hb
  have h1 := ht.a.len
  have h2 := ht.b.len
  have h3 := ht.c.len
  refine ⟨⟨.inr (by omega), .inr (by omega), .inr (by omega)⟩, by omega, by omega, by omega, ?_⟩
  unfold maxLen
  omega

def rollOf (t : Tab) (first : Int) (fl : List Int) : Option Tab := match fl with
  | [] => none
  | s :: _ => some (openedT t s first)
set_option maxHeartbeats 2000000 in
theorem roll_any (sg st : Int) (A : Option Addr) (m p : Nat) (B : Option Addr) (k q : Nat) (C : Option Addr) (n r : Nat) (o l f : List Int) (first : Int) (w : World) (h : TIn w A m B k C n o l f) (hok : okP ⟨sg, st, o, l, f⟩) :
    Calls Try.prog 30 #[.agg #[.int .i64 sg, .int .i64 st, .slice A m p, .slice B k q, .slice C n r], .int .u64 first] w (ResP (tabOf (rollT ⟨sg, st, o, l, f⟩ first)) (errOf (rollT ⟨sg, st, o, l, f⟩ first) 10) w) := by
  obtain ⟨⟨hfa, hfb, hfc⟩, hm, hk, hn, hml, hkl, hnl⟩ := ok_full hok h
  have hm2 : m < 1000 := by omega
  have hk2 : k < 1000 := by omega
  have hn2 : n < 1000 := by omega
  clear hk hn hm
  have hsg := (ok_bd hok).1
  simp only at hsg
  have B0 : Below w.heap.size w ((w.alloc (.cells #[.int .i64 sg, .int .i64 st, .slice A m p, .slice B k q, .slice C n r] 28)).alloc (.cells #[.int .i64 0, .int .i64 0, .slice none 0 0, .slice none 0 0, .slice none 0 0] 28)) := Ge.trans (below1 _ _) (below1 _ _)
  have K0 : Blk ((w.alloc (.cells #[.int .i64 sg, .int .i64 st, .slice A m p, .slice B k q, .slice C n r] 28)).alloc (.cells #[.int .i64 0, .int .i64 0, .slice none 0 0, .slice none 0 0, .slice none 0 0] 28)) w.heap.size 28 (csT sg st A m p B k q C n r) := (Blk.new w _ _).later (below1 _ _)
  have Z0 : Blk ((w.alloc (.cells #[.int .i64 sg, .int .i64 st, .slice A m p, .slice B k q, .slice C n r] 28)).alloc (.cells #[.int .i64 0, .int .i64 0, .slice none 0 0, .slice none 0 0, .slice none 0 0] 28)) (w.heap.size + 1) 28 (csT 0 0 none 0 0 none 0 0 none 0 0) := Blk.at_ _ _ _ (by simp)
  have sz0 : ((w.alloc (.cells #[.int .i64 sg, .int .i64 st, .slice A m p, .slice B k q, .slice C n r] 28)).alloc (.cells #[.int .i64 0, .int .i64 0, .slice none 0 0, .slice none 0 0, .slice none 0 0] 28)).heap.size = w.heap.size + 2 := by simp
  have hv := Try.zeroValue28
  have hT := h.later B0
  have HL := Lib.hid (low_any sg st A m p B k q C n r o _ hT.a hml hsg)
  have HT := Lib.hid hT
  have HK := Lib.hid K0
  have HZ := Lib.hid Z0
  have HB := Lib.hid B0
  have SZ := Lib.hid sz0
  obtain ⟨fl, HF⟩ : ∃ fl, Hid (freeTo o sg.toNat = fl) := ⟨_, Lib.hid rfl⟩
  have HR : Hid (rollT ⟨sg, st, o, l, f⟩ first = rollOf ⟨sg, st, o, l, f⟩ first fl) := Lib.hid (by rw [← HF.out]; rfl)
  rw [HF.out] at HL
  clear hT h B0 K0 Z0 sz0 hok
  cases fl with
  | nil =>
    rw [HR.out]
    simp only [rollOf, tabOf, errOf, Option.getD]
    have HL2 : Hid (Calls Try.prog 47 #[.agg #[.int .i64 sg, .int .i64 st, .slice A m p, .slice B k q, .slice C n r]] ((w.alloc (.cells #[.int .i64 sg, .int .i64 st, .slice A m p, .slice B k q, .slice C n r] 28)).alloc (.cells #[.int .i64 0, .int .i64 0, .slice none 0 0, .slice none 0 0, .slice none 0 0] 28)) fun e w' => e = .returned (.tuple #[.int .i64 0, .bool false]) ∧ Below ((w.alloc (.cells #[.int .i64 sg, .int .i64 st, .slice A m p, .slice B k q, .slice C n r] 28)).alloc (.cells #[.int .i64 0, .int .i64 0, .slice none 0 0, .slice none 0 0, .slice none 0 0] 28)).heap.size ((w.alloc (.cells #[.int .i64 sg, .int .i64 st, .slice A m p, .slice B k q, .slice C n r] 28)).alloc (.cells #[.int .i64 0, .int .i64 0, .slice none 0 0, .slice none 0 0, .slice none 0 0] 28)) w') := HL
    go_enter Try.func30, Try.ntmps30
    go_wp2_with (with_reducible refine load_t rfl (.tmp 2) rfl w.heap.size rfl HK.out ?_)
    refine HL2.out.mono ?_
    rintro e w1 ⟨rfl, hb⟩
    have Z1 := Lib.hid (HZ.out.later hb)
    have B1 := Lib.hid (Ge.trans HB.out hb)
    clear hb HL HL2 HK HZ HB
    go_wp2_with (with_reducible refine store_t rfl (.tmp 4) (.tmp 15) rfl (w.heap.size + 1) rfl rfl Z1.out ?_)
    exact bodyPost_ret (res_t2 (y := .int .i64 10) rfl _ _ (w.heap.size + 1) rfl rfl (Z1.out.row _)) rfl (zero_res 10 w _ (below_row B1.out (by omega) _))
  | cons s rest =>
    rw [HR.out]
    simp only [rollOf, tabOf, errOf, Option.getD]
    have HL2 : Hid (Calls Try.prog 47 #[.agg #[.int .i64 sg, .int .i64 st, .slice A m p, .slice B k q, .slice C n r]] ((w.alloc (.cells #[.int .i64 sg, .int .i64 st, .slice A m p, .slice B k q, .slice C n r] 28)).alloc (.cells #[.int .i64 0, .int .i64 0, .slice none 0 0, .slice none 0 0, .slice none 0 0] 28)) fun e w' => e = .returned (.tuple #[.int .i64 s, .bool true]) ∧ Below ((w.alloc (.cells #[.int .i64 sg, .int .i64 st, .slice A m p, .slice B k q, .slice C n r] 28)).alloc (.cells #[.int .i64 0, .int .i64 0, .slice none 0 0, .slice none 0 0, .slice none 0 0] 28)).heap.size ((w.alloc (.cells #[.int .i64 sg, .int .i64 st, .slice A m p, .slice B k q, .slice C n r] 28)).alloc (.cells #[.int .i64 0, .int .i64 0, .slice none 0 0, .slice none 0 0, .slice none 0 0] 28)) w') := HL
    go_enter Try.func30, Try.ntmps30
    go_wp2_with (with_reducible refine load_t rfl (.tmp 2) rfl w.heap.size rfl HK.out ?_)
    refine HL2.out.mono ?_
    rintro e w1 ⟨rfl, hb⟩
    have Z1 := HZ.out.later hb
    have K1 := Lib.hid (HK.out.later hb)
    have B1 := Ge.trans HB.out hb
    have C1 := Lib.hid (opened_any sg st A m p B k q C n r o l f s first w1 (HT.out.later hb) hfa hfb hfc hm2 hk2 hn2)
    have sz1 : w.heap.size + 2 ≤ w1.heap.size := by have := hb.size; rw [SZ.out] at this; exact this
    clear hb HL HL2 HK HZ HB HT SZ
    go_wp2_with (with_reducible refine load_t rfl (.tmp 2) rfl w.heap.size rfl K1.out ?_)
    refine C1.out.mono ?_
    rintro e' w2 ⟨A1, p1, B1', q1, C1', r1, rfl, R1, b1⟩
    have Z2 := Lib.hid (Z1.later b1)
    have B2 := Lib.hid (Ge.trans B1 b1)
    have RR := Lib.hid R1
    clear C1 K1 Z1 B1 R1 b1
    go_wp2_with (with_reducible refine store_t rfl (.tmp 4) (.tmp 19) rfl (w.heap.size + 1) rfl rfl Z2.out ?_)
    have R2 := RR.out.row (b := w.heap.size + 1) (cs := csT sg st A1 (m + 1) p1 B1' (k + 1) q1 C1' (n + 1) r1) (by omega)
    exact bodyPost_ret (res_t2 rfl _ _ (w.heap.size + 1) rfl rfl (Z2.out.row _)) rfl ⟨A1, m + 1, p1, B1', k + 1, q1, C1', n + 1, r1, rfl, R2.tin, own_cap R2.a, (R2.wide (by omega)).fresh, below_row B2.out (by omega) _⟩

/-- The last number's cell. -/
theorem last_cell {W : World} {B : Option Addr} {k : Nat} {l : List Int} (h : Sl .i64 W B k l) (hk : 0 < k) : ∃ b off, B = some ⟨b, off, none⟩ ∧ b < W.heap.size ∧ W.cell? ⟨b, off + (k - 1), none⟩ = some (.int .i64 (lastN l)) := by
  obtain ⟨b, off, e, hb, hc⟩ := h.cells hk
  refine ⟨b, off, e, hb, ?_⟩
  have := hc (k - 1) (by omega)
  rw [this]
  unfold lastN
  rw [h.len]

set_option maxHeartbeats 4000000 in
theorem room_is (sg st : Int) (A : Option Addr) (m p : Nat) (B : Option Addr) (k q : Nat) (C : Option Addr) (n r : Nat) (o l f : List Int) (y : Int) (w : World) (h : TIn w A m B k C n o l f) (hok : okP ⟨sg, st, o, l, f⟩) (hy : roomT ⟨sg, st, o, l, f⟩ = y) :
    Calls Try.prog 19 #[.agg #[.int .i64 sg, .int .i64 st, .slice A m p, .slice B k q, .slice C n r]] w fun e w' => e = .returned (.int .i64 y) ∧ Below w.heap.size w w' := by
  obtain ⟨_, hm, hk, hn, hml, hkl, hnl⟩ := ok_full hok h
  subst hk
  clear hn
  have hsl : k = l.length := h.b.len
  have hol : k = o.length := h.a.len
  have hlast := hok.2.2.2.2.2.1 _ (last_mem (l := l) (by omega))
  simp only at hlast
  have h1 := hok.1
  have h2 := hok.2.1
  simp only at h1 h2
  obtain ⟨bb, off, rfl, hbb, hc⟩ := last_cell h.b (by omega)
  obtain ⟨z, HZ⟩ : ∃ z, Hid (lastN l = z) := ⟨_, Lib.hid rfl⟩
  rw [HZ.out] at hlast hc
  have hbx := below1 w (.cells #[.int .i64 sg, .int .i64 st, .slice A k p, .slice (some ⟨bb, off, none⟩) k q, .slice C n r] 28)
  obtain ⟨i, Hi⟩ : ∃ i, Hid (k - 1 = i) := ⟨_, Lib.hid rfl⟩
  rw [Hi.out] at hc
  have hik : i < k := by have := Hi.out; omega
  have hiki : (i : Int) < (k : Int) := by omega
  obtain ⟨d1, E1⟩ : ∃ d, Hid (st - z = d) := ⟨_, Lib.hid rfl⟩
  obtain ⟨d2, E2⟩ : ∃ d, Hid (sg - (k : Int) = d) := ⟨_, Lib.hid rfl⟩
  obtain ⟨d3, E3⟩ : ∃ d, Hid (st * d2 = d) := ⟨_, Lib.hid rfl⟩
  have b2 : 0 ≤ d2 ∧ d2 ≤ 16 := by
    have := E2.out
    have hf := free_len (o := o) (n := sg.toNat) (fun x hx => by have := hok.2.2.2.1 x hx; simp only at this; omega) hok.2.2.2.2.1
    omega
  have b3 : 0 ≤ d3 ∧ d3 ≤ 480 := by
    rw [← E3.out]
    refine ⟨Int.mul_nonneg (by omega) b2.1, ?_⟩
    calc st * d2 ≤ 30 * d2 := Int.mul_le_mul_of_nonneg_right h2.2 b2.1
      _ ≤ 480 := by omega
  have w1 : IntKind.i64.wrap (st - z) = d1 := by rw [E1.out]; exact IntWalk.i64_in _ (by have := E1.out; omega)
  have w2 : IntKind.i64.wrap (sg - (k : Int)) = d2 := by rw [E2.out]; exact IntWalk.i64_in _ (by omega)
  have w3 : IntKind.i64.wrap (st * d2) = d3 := by rw [E3.out]; exact IntWalk.i64_in _ (by omega)
  have w4 : IntKind.i64.wrap (d1 + d3) = y := by
    have : d1 + d3 = y := by
      rw [← hy]
      unfold roomT
      simp only
      rw [HZ.out, ← hol, E2.out, E3.out, E1.out]
    rw [this]
    exact IntWalk.i64_in _ (by have := E1.out; omega)
  have I : Its w [(w.heap.size, 28, csT sg st A k p (some ⟨bb, off, none⟩) k q C n r)] [] (w.alloc (.cells #[.int .i64 sg, .int .i64 st, .slice A k p, .slice (some ⟨bb, off, none⟩) k q, .slice C n r] 28)) := (Its.nil hbx).cons (Blk.new w _ _)
  have hne : Nonempty (In (Its w [(w.heap.size, 28, csT sg st A k p (some ⟨bb, off, none⟩) k q C n r)] [])) := ⟨⟨_, I⟩⟩
  have f0 : ∀ j : In (Its w [(w.heap.size, 28, csT sg st A k p (some ⟨bb, off, none⟩) k q C n r)] []), j.W.cell? ⟨w.heap.size, 0, none⟩ = some (.int .i64 sg) := fun j => (j.h.at_ 0 rfl).cell 0
  have f1 : ∀ j : In (Its w [(w.heap.size, 28, csT sg st A k p (some ⟨bb, off, none⟩) k q C n r)] []), j.W.cell? ⟨w.heap.size, 1, none⟩ = some (.int .i64 st) := fun j => (j.h.at_ 0 rfl).cell 1
  have f2 : ∀ j : In (Its w [(w.heap.size, 28, csT sg st A k p (some ⟨bb, off, none⟩) k q C n r)] []), j.W.cell? ⟨w.heap.size, 2, none⟩ = some (.slice A k p) := fun j => (j.h.at_ 0 rfl).cell 2
  have f3 : ∀ j : In (Its w [(w.heap.size, 28, csT sg st A k p (some ⟨bb, off, none⟩) k q C n r)] []), j.W.cell? ⟨w.heap.size, 3, none⟩ = some (.slice (some ⟨bb, off, none⟩) k q) := fun j => (j.h.at_ 0 rfl).cell 3
  have f4 : ∀ j : In (Its w [(w.heap.size, 28, csT sg st A k p (some ⟨bb, off, none⟩) k q C n r)] []), j.W.cell? ⟨w.heap.size, 4, none⟩ = some (.slice C n r) := fun j => (j.h.at_ 0 rfl).cell 4
  have fe : ∀ j : In (Its w [(w.heap.size, 28, csT sg st A k p (some ⟨bb, off, none⟩) k q C n r)] []), j.W.cell? ⟨bb, off + i, none⟩ = some (.int .i64 z) := fun j => ((bcell j.h.b).1 bb (off + i) hbb).trans hc
  have II := Lib.hid I
  have Q : Hid (∀ W : World, Its w [(w.heap.size, 28, csT sg st A k p (some ⟨bb, off, none⟩) k q C n r)] [] W → Calls Try.prog 43 #[.agg #[.int .i64 sg, .int .i64 st, .slice A k p, .slice (some ⟨bb, off, none⟩) k q, .slice C n r]] W fun e w' => e = .returned (.int .i64 (i : Int)) ∧ Below W.heap.size W w') := Lib.hid (fun W _ => open_is sg st A k p (some ⟨bb, off, none⟩) k q C n r (i : Int) W hml (by have := Hi.out; omega))
  clear I hc hlast hok h hbx hy hsl hol b2 b3 h1 h2
  go_enter Try.func19, Try.ntmps19
  go_wp2_with fail
  refine region_class (Its w [(w.heap.size, 28, csT sg st A k p (some ⟨bb, off, none⟩) k q C n r)] []) (by kernel_rfl) (by kernel_rfl) II.out.drawn ?_
  repeat (go_big_quiet_step ((go_at_call 43; with_reducible exact class_call _ (fun hi => its_ge hi (Q.out _ hi)))))
  refine wpQuiet_nil ?_
  rintro _ ⟨j, rfl⟩
  go_wp2_with fail
  go_ret
  exact ⟨rfl, j.h.b⟩
end Go.Proofs.Ytpgbbbgblgkokaa
