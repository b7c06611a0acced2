/- For all inputs the statement WheelOnce about wheel returns true, and changes nothing. Conditions: none. -/
import Derived.Test.YtogfpakopckfoaaWhP
import Derived.Deep.RegionWith
import Derived.BigQuiet
import Derived.BigRegion
import Derived.Deep.CutRange
import Derived.Deep.RegionHeld3
import Derived.Test.YtogfpakopckfoaaWhO
import Derived.Test.YtogfpakopckfoaaMem
import Derived.ProofKit
import Derived.OpenShut
import Derived.ShutString
import Derived.SizedLaws
namespace Go.Proofs.Ytogfpakopckfoaa.wheelOnce
open Go.ChangeShapes Go.WideShapes Go.ChangeAt Go.RowKit Go.Lib Go.MapKept
open Go.ChangeMaps (open_string shut_string)
set_option linter.unusedVariables false

theorem own : ownKnob Try.prog.godebug = none := by kernel_rfl
theorem laid : laidOutB Try.prog = true := by kernel_rfl

set_option maxRecDepth 100000
open Wl Sp
def cL (j : Nat) : Nat := 97 + j
/-- Told by an advance from T tz 'tz' (b: the first advance). -/
def fst (T tz : Int) (b : Bool) (x : Int) : Bool := decide (x ≤ tz) && (decide (T < x) || b)
def isK (kk : Nat) (dk : Int) (a : Tm) : Bool := (a.i.toList == (chr kk).toList) && (a.d == dk)
theorem cnt_letter (dd : Nat → Int) (p : Tm → Bool) (k : Nat) (hk : k < 100) : ∀ m, m < 100 → ((tmL cL dd m).filter p).countP (isK (cL k) (dd k)) = if k < m ∧ p ⟨chr (cL k), dd k⟩ = true then 1 else 0
  | 0, _ => by simp [tmL]
  | m + 1, hm => by
    rw [tmL_succ, List.filter_append, List.countP_append, cnt_letter dd p k hk m (by omega)]
    by_cases e : k = m
    · subst e
      have hs : isK (cL k) (dd k) ⟨chr (cL k), dd k⟩ = true := by simp [isK]
      rw [if_neg (by omega)]
      cases hp : p ⟨chr (cL k), dd k⟩
      · simp [hp]
      · simp [hp, hs]
    · have hs : isK (cL k) (dd k) ⟨chr (cL m), dd m⟩ = false := by
        have h1 : ¬ (chr (cL m)).toList = (chr (cL k)).toList := fun h => by
          have := chr_inj (by unfold cL; omega) (by unfold cL; omega) h
          unfold cL at this
          omega
        simp [isK, h1]
      have h2 : ([(⟨chr (cL m), dd m⟩ : Tm)].filter p).countP (isK (cL k) (dd k)) = 0 := by
        cases hp : p ⟨chr (cL m), dd m⟩
        · simp [hp]
        · simp [hp, hs]
      rw [h2, Nat.add_zero]
      have h3 : (k < m ∧ p ⟨chr (cL k), dd k⟩ = true) ↔ (k < m + 1 ∧ p ⟨chr (cL k), dd k⟩ = true) := by
        constructor
        · rintro ⟨x, y⟩; exact ⟨by omega, y⟩
        · rintro ⟨x, y⟩; exact ⟨by omega, y⟩
      simp only [h3]
/-- The timers that wait, ahead of an advance. -/
structure Wait (dd : Nat → Int) (m : Nat) (s : Wh) (T : Int) (b : Bool) : Prop where
  g : Wl.Good s
  t : s.t = T
  p : s.l.Perm ((tmL cL dd m).filter fun a => decide (T < a.d) || b)
theorem Wait.due {dd : Nat → Int} {m : Nat} {s : Wh} {T : Int} {b : Bool} (h : Wait dd m s T b) (tz : Int) : (dueL s.l tz).Perm ((tmL cL dd m).filter fun a => fst T tz b a.d) := by
  have h1 := h.p.filter (fun a => decide (a.d ≤ tz))
  rw [List.filter_filter] at h1
  exact h1
theorem Wait.next {dd : Nat → Int} {m : Nat} {s : Wh} {T : Int} {b : Bool} (h : Wait dd m s T b) {tz : Int} (hT : T ≤ tz) (ht : 0 ≤ tz ∧ tz < 18446744073709551616) : Wait dd m (advW s tz) tz false := by
  have hm : max s.t tz = tz := by rw [h.t]; omega
  refine ⟨h.g.adv ht, hm, ?_⟩
  show (rest s.l (max s.t tz)).Perm _
  rw [hm]
  have h1 := h.p.filter (fun a => decide (tz < a.d))
  rw [List.filter_filter] at h1
  have e : (fun a : Tm => decide (tz < a.d) && (decide (T < a.d) || b)) = (fun a : Tm => decide (tz < a.d) || false) := by
    funext a
    by_cases h2 : tz < a.d
    · have h3 : T < a.d := by omega
      simp [h2, h3]
    · simp [h2]
  rw [e] at h1
  exact h1
theorem Wait.told {dd : Nat → Int} {m : Nat} {s : Wh} {T : Int} {b : Bool} (h : Wait dd m s T b) (tz : Int) {k : Nat} (hk : k < m) (hm : m < 100) : (dueL s.l tz).countP (isK (cL k) (dd k)) = if fst T tz b (dd k) = true then 1 else 0 := by
  rw [(h.due tz).countP_eq, cnt_letter dd _ k (by omega) m hm]
  simp [hk]
theorem Wait.left {dd : Nat → Int} {m : Nat} {s : Wh} {T : Int} {b : Bool} (h : Wait dd m s T b) (tz : Int) (hT : T ≤ tz) : (s.l.length : Int) - ((tmL cL dd m).countP (fun a => fst T tz b a.d) : Nat) = ((advW s tz).l.length : Nat) := by
  have hm : max s.t tz = tz := by rw [h.t]; omega
  have h1 := (h.due tz).length_eq
  rw [← List.countP_eq_length_filter] at h1
  have h2 := congrArg List.length (due_join h.g.ok tz)
  rw [List.length_append] at h2
  show _ = (((rest s.l (max s.t tz)).length : Nat) : Int)
  rw [hm, ← h1]
  omega
theorem cnt_le_all (dd : Nat → Int) (p : Tm → Bool) (k : Nat) : (tmL cL dd k).countP p ≤ k := by
  have := List.countP_le_length (p := p) (l := tmL cL dd k)
  rwa [tmL_len] at this
set_option maxHeartbeats 16000000 in
theorem walk {WI : Nat → Wh → Sp.Item} (P : Prg WI) (now : Int) (A : Option Addr) (n c : Nat) (f : Nat → Int) (B : Option Addr) (ns cs : Nat) (h : Nat → Int) (w : World) (hw : 0 ≤ now ∧ now < 18446744073709551616) (hn : n ≤ maxLen) (hL : CellsIn w A n (fun j => .int .u32 (f j))) (hf : ∀ j, j < n → 0 ≤ f j ∧ f j < 4294967296) (hns : ns ≤ maxLen) (hB : CellsIn w B ns (fun j => .int .u32 (h j))) (hh : ∀ j, j < ns → 0 ≤ h j ∧ h j < 4294967296) :
    Calls Try.prog 6 #[.int .u64 now, .slice A n c, .slice B ns cs] w fun e w' => e = .returned (.bool true) ∧ Below w.heap.size w w' := by
  have HP := Lib.hid P
  have HNW := Lib.hid hw
  have HN := Lib.hid hn
  have HL := Lib.hid hL
  have HF := Lib.hid hf
  have HB := Lib.hid hB
  have HH := Lib.hid hh
  obtain ⟨m, em⟩ : ∃ z, min n 20 = z := ⟨_, rfl⟩
  have hm1 : (min (n : Int) 20) = (m : Int) := by omega
  have hmn : m ≤ n ∧ m ≤ 20 := by omega
  have HM := Lib.hid hmn
  clear P hw hn hL hf em hns hB hh
  go_enter Try.func6, Try.ntmps6
  go_wp2_with fail
  refine (HP.out.nw now (Sp.Sep.nil (Below.refl _ _)) HNW.out).mono ?_
  rintro e' w1 ⟨g, rfl, s1⟩
  have S1 : Hid (Sp.Sep w w1 [WI g ⟨now, []⟩]) := Lib.hid s1
  clear s1
  by_cases hbig : 4611686018427387904 < now
  · have hbd : decide (4611686018427387904 < now) = true := decide_eq_true hbig
    clear hm1 hmn
    go_wp2_with fail
    refine (fixed_any HP.out _).mono ?_
    rintro e' w2 ⟨rfl, hb2⟩
    have B2 := Lib.hid (S1.out.below.trans (hb2.mono S1.out.below.size))
    clear hb2
    go_wp2_with fail
    go_ret
    exact ⟨rfl, B2.out⟩
  · have hbd : decide (4611686018427387904 < now) = false := decide_eq_false hbig
    have HBG : Hid (now ≤ 4611686018427387904) := Lib.hid (by omega)
    go_upto_region 6 with fail
    clear hm1 hmn hbd hbig
    go_loopg [9] m (fun gk s9 wr => ∃ (q : Nat) (s : Wh), q ≤ m ∧ gk = m - q ∧ s9 = .int .i64 (q : Nat) ∧ Hid (SetL now cL (fun j => now + f j) q s) ∧ Hid (Sp.Sep w wr [WI g s]))
    case atStart => exact ⟨0, _, by omega, rfl, rfl, Lib.hid (SetL.start _ _ HNW.out), S1⟩
    case round =>
      obtain ⟨q, s, hq, hgk, rfl, HS, HI⟩ := hrel
      have HGK := Lib.hid hgk
      clear hgk S1
      by_cases hlt : q < m
      · have hli : (q : Int) < (m : Int) := by omega
        have wi : IntKind.i64.wrap ((q : Int) + 1) = (q : Int) + 1 := IntWalk.i64_in _ (by have := HM.out; omega)
        have hqn : q < n := by have := HM.out; omega
        have hqi : (q : Int) < (n : Int) := by omega
        obtain ⟨ga, o, rfl, _, hc⟩ := HL.out (by omega)
        have hcell : wr.cell? ⟨ga, o + q, none⟩ = some (.int .u32 (f q)) := (HI.out.below.cell (World.block_lt_of_cell? _ _ (hc q hqn))).trans (hc q hqn)
        have HFQ := Lib.hid (HF.out q hqn)
        have HSN := Lib.hid (HS.out.new (fun j hj => by unfold cL; have := HM.out; omega) (by unfold cL; have := HM.out; omega))
        have HDQ : Hid (0 ≤ now + f q ∧ now + f q < 18446744073709551616) := Lib.hid (by have := HBG.out; have := HNW.out; have := HFQ.out; omega)
        have HSX := Lib.hid (HS.out.next (fun j hj => by unfold cL; have := HM.out; omega) (by unfold cL; have := HM.out; omega) HDQ.out (by have := HM.out; omega))
        have HSL : Hid (s.l.length < 200) := Lib.hid (by rw [HS.out.p.length_eq, tmL_len]; have := HM.out; omega)
        have c1 : IntKind.i64.wrap (97 + (q : Int)) = ((97 + q : Nat) : Int) := by rw [show (97 : Int) + (q : Int) = ((97 + q : Nat) : Int) by omega]; exact IntWalk.i64_in _ (by have := HM.out; omega)
        have c2 : IntKind.u8.wrap ((97 + q : Nat) : Int) = ((97 + q : Nat) : Int) := IntWalk.u8_in _ (by have := HM.out; omega)
        obtain ⟨k, ek⟩ : ∃ z, 97 + q = z := ⟨_, rfl⟩
        obtain ⟨fq, efq⟩ : ∃ z, f q = z := ⟨_, rfl⟩
        rw [ek] at c1 c2
        have hk : k < 256 := by have := HM.out; omega
        have c3 : IntKind.u64.wrap fq = fq := IntWalk.u64_in _ (by have := HFQ.out; rw [← efq]; omega)
        have c4 : IntKind.u64.wrap (now + fq) = now + fq := IntWalk.u64_in _ (by have := HDQ.out; rw [← efq]; omega)
        rw [efq] at hcell
        have HCW : Hid (w.cell? ⟨ga, o + q, none⟩ = some (.int .u32 fq)) := Lib.hid (by rw [← efq]; exact hc q hqn)
        have hcv : (convert 52 9 (.slice (some ⟨wr.heap.size, 0, none⟩) 1 1)).run Try.prog (wr.alloc (.cells #[.int .u8 (k : Nat)] 5)).drew = .ok (.string (chr k)) (wr.alloc (.cells #[.int .u8 (k : Nat)] 5)).drew := chr_conv _ _ k hk ((Sp.Blk.new wr 5 #[.int .u8 (k : Nat)]).cell 0)
        have z1 : wr.drew.cell? ⟨ga, o + q, none⟩ = some (.int .u32 fq) := hcell
        have z2 : (wr.alloc (.cells #[.int .u8 (k : Nat)] 5)).drew.cell? ⟨ga, o + q, none⟩ = some (.int .u32 fq) := ((below1 wr (.cells #[.int .u8 (k : Nat)] 5)).cell (World.block_lt_of_cell? _ _ hcell)).trans hcell
        have HST : Hid (Calls Try.prog 15 #[.pointer (some ⟨g, 0, none⟩), .string (chr k), .int .u64 (now + fq)] (wr.alloc (.cells #[.int .u8 (k : Nat)] 5)).drew fun e w' => e = .returned (.bool false) ∧ Sp.Sep w w' [WI g (setW s (chr k) (now + fq))]) := Lib.hid (by
          have h1 := HP.out.st (chr k) (now + fq) ((HI.out.alloc (.cells #[.int .u8 (k : Nat)] 5)).drew) (k := 0) rfl HS.out.g HSL.out (by rw [← efq]; exact HDQ.out) (chr_size k)
          have h2 := HSN.out
          rw [show cL q = k from ek] at h2
          rw [h2] at h1
          exact h1)
        have HSX3 : Hid (SetL now cL (fun j => now + f j) (q + 1) (setW s (chr k) (now + fq))) := Lib.hid (by
          have h1 := HSX.out
          rw [show cL q = k from ek] at h1
          rw [← efq]
          exact h1)
        clear hc efq HDQ HSX HSN
        go_upto_region 8 with fail
        go_region_with (first | (go_at_call 15; refine HST.out.mono ?_; rintro e' w3 ⟨rfl, h3⟩))
        all_goals
          have S3 := Lib.hid h3
          clear h3 HST hcv hcell z1 z2
          go_wp2_with fail
          go_roundg (m - (q + 1))
          case measure => have := HGK.out; omega
          case rel => exact ⟨q + 1, _, by omega, by have := HGK.out; omega, by go_num, HSX3, S3⟩
      · obtain rfl : m = q := by omega
        have HW0 : Hid (Wait (fun j => now + f j) m s now true) := Lib.hid ⟨HS.out.g, HS.out.t, by
          have e : (tmL cL (fun j => now + f j) m).filter (fun a => decide (now < a.d) || true) = tmL cL (fun j => now + f j) m := List.filter_eq_self.2 fun a _ => by simp
          rw [e]
          exact HS.out.p⟩
        have HL0 : Hid (s.l.length = m ∧ m ≤ 20) := Lib.hid ⟨by rw [HS.out.p.length_eq, tmL_len], HM.out.2⟩
        obtain ⟨dd, edd⟩ : ∃ z, (fun j => now + f j) = z := ⟨_, rfl⟩
        have HDD : Hid (∀ k, dd k = now + f k) := Lib.hid (fun k => by rw [← edd])
        rw [edd] at HW0
        clear edd HS hlt hq
        go_upto_region 12 with fail
        go_loopg [10, 11, 12, 13, 14, 15, 16, 17, 18, 19] ns (fun gk s10 s11 s12 s13 s14 s15 s16 s17 s18 s19 wr => ∃ (q lf : Nat) (s : Wh) (T : Int) (bq : Bool), q ≤ ns ∧ q ≤ 20 ∧ gk = ns - q ∧ s10 = .int .u64 T ∧ s11 = .int .i64 (lf : Nat) ∧ s12 = .int .i64 (q : Nat) ∧ ((q : Int) == 0) = bq ∧ Hid (s.l.length = lf ∧ lf ≤ 20) ∧ Hid (Wait dd m s T bq) ∧ Hid (now ≤ T ∧ T ≤ now + 100000 * q) ∧ Hid (Sp.Sep w wr [WI g s]))
        case atStart => exact ⟨0, m, s, now, true, by omega, by omega, rfl, rfl, rfl, rfl, rfl, HL0, HW0, Lib.hid (by omega), HI⟩
        case round =>
          clear HL0 HW0 HI
          obtain ⟨q, lf, s, T, bq, hq, hq2, hgk, rfl, rfl, rfl, hbq, HLF, HW, HTT, HI⟩ := hrel
          have HGK := Lib.hid hgk
          clear hgk
          by_cases hlt : q < ns
          · have hli : (q : Int) < (ns : Int) := by omega
            by_cases h6 : q < 20
            · have hl6 : (q : Int) < 20 := by omega
              have HQ := Lib.hid (And.intro hlt h6)
              have HQ2 := Lib.hid (And.intro hq hq2)
              have wi : IntKind.i64.wrap ((q : Int) + 1) = (q : Int) + 1 := IntWalk.i64_in _ (by omega)
              obtain ⟨gb, ob, rfl, _, hc⟩ := HB.out (by omega)
              have x0 : wr.cell? ⟨gb, ob + q, none⟩ = some (.int .u32 (h q)) := (HI.out.below.cell (World.block_lt_of_cell? _ _ (hc q hlt))).trans (hc q hlt)
              have hhq := HH.out q hlt
              obtain ⟨hv, ehv⟩ : ∃ z, h q = z := ⟨_, rfl⟩
              rw [ehv] at x0 hhq
              obtain ⟨r, er⟩ : ∃ z, hv.tmod 100000 = z := ⟨_, rfl⟩
              have hr1 : 0 ≤ r ∧ r < 100000 := by
                rw [← er]
                exact ⟨Int.tmod_nonneg _ hhq.1, Int.tmod_lt_of_pos _ (by decide)⟩
              obtain ⟨tz, etz⟩ : ∃ z, T + r = z := ⟨_, rfl⟩
              have htz : 0 ≤ tz ∧ tz < 18446744073709551616 ∧ T ≤ tz ∧ tz ≤ now + 100000 * (q + 1) := by have := HTT.out; have := HBG.out; have := HNW.out; omega
              have HTZ := Lib.hid htz
              have w0 : IntKind.u64.wrap hv = hv := IntWalk.u64_in _ (by omega)
              have w1 : IntKind.u64.wrap r = r := IntWalk.u64_in _ (by omega)
              have w2 : IntKind.u64.wrap (T + r) = tz := by rw [etz]; exact IntWalk.u64_in _ (by omega)
              clear hc ehv hhq htz etz hr1
              go_upto_region 15 with fail
              clear x0 w0 w1 w2 er
              go_wp2_with fail
              refine (HP.out.ad tz HI.out (k := 0) rfl HW.out.g ⟨HTZ.out.1, HTZ.out.2.1⟩).mono ?_
              rintro e' w4 ⟨A4, p4, rfl, h4⟩
              have hmx : max s.t tz = tz := by rw [HW.out.t]; have := HTZ.out; omega
              rw [hmx] at h4
              rw [hmx]
              have HTL : Hid (∀ k, k < m → (dueL s.l tz).countP (isK (cL k) (dd k)) = if fst T tz bq (dd k) = true then 1 else 0) := Lib.hid (fun k hk => HW.out.told tz hk (by have := HM.out; omega))
              have HLT := Lib.hid (HW.out.left tz HTZ.out.2.2.1)
              have HWN := Lib.hid (HW.out.next HTZ.out.2.2.1 ⟨HTZ.out.1, HTZ.out.2.1⟩)
              have hdl : (dueL s.l tz).length ≤ 20 := by
                have h1 : (dueL s.l tz).length ≤ s.l.length := List.length_filter_le _ _
                have := HLF.out
                omega
              rw [HLF.out.1] at HLT
              obtain ⟨s', es⟩ : ∃ z, advW s tz = z := ⟨_, rfl⟩
              obtain ⟨D, eD⟩ : ∃ z, dueL s.l tz = z := ⟨_, rfl⟩
              rw [es] at h4 HLT HWN
              rw [eD] at h4 HTL hdl ⊢
              obtain ⟨d, ed⟩ : ∃ z, D.length = z := ⟨_, rfl⟩
              rw [ed] at h4 hdl ⊢
              have S4 : Hid (Sp.Sep w w4 [WI g s', trI A4 d D]) := Lib.hid h4
              have HDL := Lib.hid hdl
              have RD := Lib.hid (tr_at S4.out (k := 1) rfl)
              clear h4 es eD ed hdl hmx HI HW hq hq2
              go_upto_region 17 with fail
              go_loopg [11, 15, 16, 17, 18, 19] m (fun gk2 s11 s15 s16 s17 s18 s19 wr => ∃ (k : Nat) (lk : Int), k ≤ m ∧ gk2 = m - k ∧ s11 = .int .i64 lk ∧ s15 = .int .i64 (k : Nat) ∧ Hid (lk = (lf : Int) - ((tmL cL dd k).countP (fun a => fst T tz bq a.d) : Nat)) ∧ Hid (Below w4.heap.size w4 wr))
              case atStart => exact ⟨0, lf, by omega, rfl, rfl, rfl, Lib.hid (by simp [tmL]), Lib.hid (Below.refl _ _)⟩
              case round =>
                obtain ⟨k, lk, hk, hgk2, rfl, rfl, HLK, HBW⟩ := hrel
                have HGK2 := Lib.hid hgk2
                clear hgk2
                by_cases hkl : k < m
                · have hki : (k : Int) < (m : Int) := by omega
                  have hkn : k < n := by have := HM.out; omega
                  have hkni : (k : Int) < (n : Int) := by omega
                  have wk : IntKind.i64.wrap ((k : Int) + 1) = (k : Int) + 1 := IntWalk.i64_in _ (by have := HM.out; omega)
                  obtain ⟨ga, oa, rfl, _, hc⟩ := HL.out (by omega)
                  have y0 : wr.cell? ⟨ga, oa + k, none⟩ = some (.int .u32 (f k)) := ((S4.out.later HBW.out).below.cell (World.block_lt_of_cell? _ _ (hc k hkn))).trans (hc k hkn)
                  have hfk := HF.out k hkn
                  have hdk := HDD.out k
                  have HTK := Lib.hid (HTL.out k hkl)
                  have HNX : Hid ((tmL cL dd (k + 1)).countP (fun a => fst T tz bq a.d) = (tmL cL dd k).countP (fun a => fst T tz bq a.d) + if fst T tz bq (dd k) = true then 1 else 0) := Lib.hid (by
                    rw [tmL_succ, List.countP_append, List.countP_cons, List.countP_nil]
                    simp)
                  obtain ⟨fk, efk⟩ : ∃ z, f k = z := ⟨_, rfl⟩
                  obtain ⟨dk, edk⟩ : ∃ z, dd k = z := ⟨_, rfl⟩
                  rw [efk] at y0 hfk hdk
                  rw [edk] at hdk HTK HNX
                  have v1 : IntKind.u64.wrap fk = fk := IntWalk.u64_in _ (by omega)
                  have v2 : IntKind.u64.wrap (now + fk) = dk := by rw [← hdk]; exact IntWalk.u64_in _ (by have := HBG.out; have := HNW.out; omega)
                  have c1 : IntKind.i64.wrap (97 + (k : Int)) = ((97 + k : Nat) : Int) := by rw [show (97 : Int) + (k : Int) = ((97 + k : Nat) : Int) by omega]; exact IntWalk.i64_in _ (by have := HM.out; omega)
                  have c2 : IntKind.u8.wrap ((97 + k : Nat) : Int) = ((97 + k : Nat) : Int) := IntWalk.u8_in _ (by have := HM.out; omega)
                  obtain ⟨kk, ek⟩ : ∃ z, 97 + k = z := ⟨_, rfl⟩
                  rw [ek] at c1 c2
                  rw [show cL k = kk from ek] at HTK
                  have hk256 : kk < 256 := by have := HM.out; omega
                  clear hc efk hfk hdk edk ek
                  go_upto_region 21 with fail
                  clear y0 v1 v2
                  go_loopg [17, 18] d (fun gk3 s17 s18 wr => ∃ (j cn : Nat), j ≤ d ∧ gk3 = d - j ∧ s17 = .int .i64 (cn : Nat) ∧ s18 = .int .i64 (j : Nat) ∧ Hid ((D.take j).countP (isK kk dk) = cn) ∧ Hid (Below w4.heap.size w4 wr))
                  case atStart => exact ⟨0, 0, by omega, rfl, rfl, rfl, Lib.hid rfl, HBW⟩
                  case round =>
                    obtain ⟨j, cn, hj, hgk3, rfl, rfl, HCN, HBZ⟩ := hrel
                    have HGK3 := Lib.hid hgk3
                    clear hgk3
                    by_cases hjl : j < d
                    · have hji : (j : Int) < (d : Int) := by omega
                      have wj : IntKind.i64.wrap ((j : Int) + 1) = (j : Int) + 1 := IntWalk.i64_in _ (by have := HDL.out; omega)
                      obtain ⟨a, ha⟩ : ∃ r, D[j]? = some r := ⟨_, List.getElem?_eq_getElem (by rw [← RD.out.len]; exact hjl)⟩
                      obtain ⟨gd, od, rfl, hca⟩ := (RD.out.later HBZ.out).c (by omega)
                      have x0 := (hca j a ha).1
                      have x1 := (hca j a ha).2
                      have HTA := Lib.hid (take_one ha)
                      have hcl : cn ≤ j := by
                        rw [← HCN.out]
                        exact Nat.le_trans (List.countP_le_length) (by rw [List.length_take]; omega)
                      have wcn : IntKind.i64.wrap ((cn : Int) + 1) = ((cn + 1 : Nat) : Int) := by rw [show (cn : Int) + 1 = ((cn + 1 : Nat) : Int) by omega]; exact IntWalk.i64_in _ (by have := HDL.out; omega)
                      clear hca ha hcl
                      go_upto_region 23 with fail
                      go_cut [115] from 90 to 117 (fun s115 wy => s115 = .bool (isK kk dk a) ∧ Hid (Below wr.heap.size wr wy))
                      case first =>
                        have hcv : (convert 52 9 (.slice (some ⟨wr.heap.size, 0, none⟩) 1 1)).run Try.prog (wr.alloc (.cells #[.int .u8 (kk : Nat)] 5)).drew = .ok (.string (chr kk)) (wr.alloc (.cells #[.int .u8 (kk : Nat)] 5)).drew := chr_conv _ _ kk hk256 ((Sp.Blk.new wr 5 #[.int .u8 (kk : Nat)]).cell 0)
                        have b0 : (wr.alloc (.cells #[.int .u8 (kk : Nat)] 5)).drew.cell? ⟨gd, od + j * 2, none⟩ = some (.string a.i) := ((below1 wr (.cells #[.int .u8 (kk : Nat)] 5)).cell (World.block_lt_of_cell? _ _ x0)).trans x0
                        have b1 : (wr.alloc (.cells #[.int .u8 (kk : Nat)] 5)).drew.cell? ⟨gd, od + j * 2 + 1, none⟩ = some (.int .u64 a.d) := ((below1 wr (.cells #[.int .u8 (kk : Nat)] 5)).cell (World.block_lt_of_cell? _ _ x1)).trans x1
                        cases e1 : (a.i.toList == (chr kk).toList)
                        · go_region
                          all_goals
                            go_wp2_with fail
                            go_meet
                            exact ⟨by simp [isK, e1], Lib.hid (below_drewN (below1 _ _) _)⟩
                        · cases e2 : (a.d == dk)
                          · go_region
                            all_goals
                              go_wp2_with fail
                              go_meet
                              exact ⟨by simp [isK, e1, e2], Lib.hid (below_drewN (below1 _ _) _)⟩
                          · go_region
                            all_goals
                              go_wp2_with fail
                              go_meet
                              exact ⟨by simp [isK, e1, e2], Lib.hid (below_drewN (below1 _ _) _)⟩
                      case rest =>
                        obtain ⟨rfl, HBY⟩ := hcut
                        have HB5 : Hid (Below w4.heap.size w4 wc) := Lib.hid (HBZ.out.trans (HBY.out.mono HBZ.out.size))
                        clear x0 x1
                        cases e : isK kk dk a
                        · have HC2 : Hid ((D.take (j + 1)).countP (isK kk dk) = cn) := Lib.hid (by rw [HTA.out, List.countP_append, HCN.out, List.countP_cons, List.countP_nil, e]; rfl)
                          go_wp2_with fail
                          go_roundg (d - (j + 1))
                          case measure => have := HGK3.out; omega
                          case rel => exact ⟨j + 1, cn, by omega, by have := HGK3.out; omega, rfl, by go_num, HC2, HB5⟩
                        · have HC2 : Hid ((D.take (j + 1)).countP (isK kk dk) = cn + 1) := Lib.hid (by rw [HTA.out, List.countP_append, HCN.out, List.countP_cons, List.countP_nil, e]; rfl)
                          go_wp2_with fail
                          go_roundg (d - (j + 1))
                          case measure => have := HGK3.out; omega
                          case rel => exact ⟨j + 1, cn + 1, by omega, by have := HGK3.out; omega, rfl, by go_num, HC2, HB5⟩
                    · obtain rfl : d = j := by omega
                      have hcn : cn = if fst T tz bq dk = true then 1 else 0 := by
                        rw [← HTK.out, ← HCN.out, List.take_of_length_le (by rw [← RD.out.len]; exact Nat.le_refl _)]
                      obtain ⟨F, eF⟩ : ∃ z, fst T tz bq dk = z := ⟨_, rfl⟩
                      rw [eF] at hcn HNX
                      have HCF := Lib.hid hcn
                      have HEF := Lib.hid eF
                      clear hcn eF hjl hj
                      go_upto_region 25 with fail
                      go_cut [19] from 78 to 140 (fun s19 wy => s19 = .bool F ∧ wr = wy)
                      case first =>
                        by_cases h1 : dk ≤ tz
                        · have h1b : decide (dk ≤ tz) = true := decide_eq_true h1
                          by_cases h2 : T < dk
                          · have h2b : decide (T < dk) = true := decide_eq_true h2
                            have H1 := Lib.hid h1b
                            have H2 := Lib.hid h2b
                            go_wp2_with fail
                            go_meet
                            exact ⟨by rw [← HEF.out]; simp [fst, H1.out, H2.out], rfl⟩
                          · have h2b : decide (T < dk) = false := decide_eq_false h2
                            have H1 := Lib.hid h1b
                            have H2 := Lib.hid h2b
                            cases bq with
                            | false =>
                              go_wp2_with fail
                              go_meet
                              exact ⟨by rw [← HEF.out]; simp only [fst, H1.out, H2.out]; rfl, rfl⟩
                            | true =>
                              go_wp2_with fail
                              go_meet
                              exact ⟨by rw [← HEF.out]; simp only [fst, H1.out, H2.out]; rfl, rfl⟩
                        · have h1b : decide (dk ≤ tz) = false := decide_eq_false h1
                          have H1 := Lib.hid h1b
                          go_wp2_with fail
                          go_meet
                          exact ⟨by rw [← HEF.out]; simp only [fst, H1.out]; rfl, rfl⟩
                      case rest =>
                        obtain ⟨rfl, rfl⟩ := hcut
                        have hlb : (tmL cL dd (k + 1)).countP (fun a => fst T tz bq a.d) ≤ k + 1 := cnt_le_all dd _ (k + 1)
                        have HLB := Lib.hid hlb
                        clear hlb
                        cases F with
                        | false =>
                          obtain rfl : cn = 0 := HCF.out
                          have HL2 : Hid (lk = (lf : Int) - ((tmL cL dd (k + 1)).countP (fun a => fst T tz bq a.d) : Nat)) := Lib.hid (by
                            rw [HLK.out, HNX.out]
                            simp)
                          go_wp2_with fail
                          go_roundg (m - (k + 1))
                          case measure => have := HGK2.out; omega
                          case rel => exact ⟨k + 1, lk, by omega, by have := HGK2.out; omega, rfl, by go_num, HL2, HBZ⟩
                        | true =>
                          obtain rfl : cn = 1 := HCF.out
                          have HL2 : Hid (lk - 1 = (lf : Int) - ((tmL cL dd (k + 1)).countP (fun a => fst T tz bq a.d) : Nat)) := Lib.hid (by
                            rw [HLK.out, HNX.out]
                            simp
                            omega)
                          have wl : IntKind.i64.wrap (lk - 1) = lk - 1 := IntWalk.i64_in _ (by have := HL2.out; have := HLB.out; have := HM.out; have := HLF.out; omega)
                          go_wp2_with fail
                          go_roundg (m - (k + 1))
                          case measure => have := HGK2.out; omega
                          case rel => exact ⟨k + 1, lk - 1, by omega, by have := HGK2.out; omega, rfl, by go_num, HL2, HBZ⟩
                · obtain rfl : m = k := by omega
                  have S5 := Lib.hid (S4.out.later HBW.out)
                  obtain ⟨lz, elz⟩ : ∃ z, s'.l.length = z := ⟨_, rfl⟩
                  have HLZ := Lib.hid elz
                  have hlk : lk = (lz : Nat) := by rw [HLK.out, HLT.out, elz]
                  subst hlk
                  have hl20 : lz ≤ 20 := by
                    have h1 := HLK.out
                    have := HLF.out
                    omega
                  have HL3 : Hid (s'.l.length = lz ∧ lz ≤ 20) := Lib.hid ⟨elz, hl20⟩
                  have qz : ((lz : Int) != (lz : Int)) = false := by simp
                  clear S4 elz hl20 hkl hk
                  go_wp2_with fail
                  refine (HP.out.ln S5.out (k := 0) rfl HWN.out.g).mono ?_
                  rintro e' w6 ⟨he, hb6⟩
                  rw [HLZ.out] at he
                  subst he
                  have S6 : Hid (Sp.Sep w w6 [WI g s']) := Lib.hid (loc_drop (items := [_]) (S5.out.later hb6))
                  clear hb6 S5
                  go_wp2_with fail
                  go_roundg (ns - (q + 1))
                  case measure => have := HGK.out; have := HQ.out; omega
                  case rel => exact ⟨q + 1, lz, s', tz, false, by have := HQ.out; omega, by have := HQ.out; omega, by have := HGK.out; have := HQ.out; omega, rfl, rfl, by go_num, by rw [beq_eq_false_iff_ne]; omega, HL3, HWN, Lib.hid (by have := HTZ.out; have := HTT.out; omega), S6⟩
            · have hl6 : ¬ ((q : Int) < 20) := by omega
              go_wp2_with fail
              refine (fixed_any HP.out _).mono ?_
              rintro e' wf ⟨rfl, hbf⟩
              have BF := Lib.hid (HI.out.below.trans (hbf.mono HI.out.below.size))
              clear hbf
              go_wp2_with fail
              go_ret
              exact ⟨rfl, BF.out⟩
          · have hli : ¬ ((q : Int) < (ns : Int)) := by omega
            go_wp2_with fail
            refine (fixed_any HP.out _).mono ?_
            rintro e' wf ⟨rfl, hbf⟩
            have BF := Lib.hid (HI.out.below.trans (hbf.mono HI.out.below.size))
            clear hbf
            go_wp2_with fail
            go_ret
            exact ⟨rfl, BF.out⟩

set_option maxRecDepth 100000 in
theorem lifted {WI : Nat → Wh → Sp.Item} (P : Prg WI) (os : Os) (started : os.Started) (H : Type) (enc : TypeId × Value → H) :
    ReturnsInHanded {} Try.checked os 6 .any (Rows.wheelOnceSpec.pre6 enc Try.prog Try.f6 Rows.wheelOnceRow.domain false) (Rows.wheelOnceSpec.post enc Try.prog Try.f6 false true false false) := by
  refine returnsInHanded_of_change (C := Try.checked) own started (by kernel_rfl) Try.func6
    (ChangeSpec.witness6 (enc := enc) (C := Try.checked) false ⟨#[], #[.int .u64 0, .slice none 0 0, .slice none 0 0], []⟩ 8 (by kernel_rfl) (by kernel_rfl) (by kernel_rfl) (by kernel_rfl)) ?_
  intro W base args ds gs before hval0 hW hcnd _
  have hval : ∀ (j : Nat) t v, Try.f6.params[j]? = some t → args[j]? = some v → Value.okWide Try.prog W .any base t v := hval0
  have hW' := hW
  obtain ⟨p, q, hA0, hV, rfl, hfz, hnd⟩ := hW
  have hA : DataW.TrodAll enc Try.prog W 0 (fun _ => true) true Try.f6.params.toList args.toList ds p := hA0
  rw [Try.params6] at hA hval
  obtain ⟨v0, vs0, d0, ds0, p0, q0, hargs, rfl, rfl, h0, r0⟩ := trodAll_cons hA
  obtain ⟨v1, vs1, d1, ds1, p1, q1, rfl, rfl, rfl, h1, r1⟩ := trodAll_cons r0
  obtain ⟨v2, vs2, d2, ds2, p2, q2, rfl, rfl, rfl, h2, r2⟩ := trodAll_cons r1
  obtain ⟨rfl, rfl, rfl⟩ := trodAll_nil r2
  obtain rfl : args = #[v0, v1, v2] := by cases args; simp_all
  obtain ⟨rfl, rfl⟩ := trodVars_none hV
  obtain ⟨a0, rfl, rfl, rfl, w0⟩ := open_int Try.underlying22 (hval 0 22 v0 rfl rfl) h0
  obtain ⟨A1, n1, c1, f1, rfl, hn1, hc1, hw1⟩ := open_nums Try.underlying51 Try.underlying53 (by kernel_rfl) (hval 1 51 v1 rfl rfl) h1
  obtain ⟨A2, n2, c2, f2, rfl, hn2, hc2, hw2⟩ := open_nums Try.underlying51 Try.underlying53 (by kernel_rfl) (hval 2 51 v2 rfl rfl) h2
  clear hA0 hval0
  try simp only [List.append_nil] at hW'
  try simp only [List.nil_append] at hW'
  have hlt := fun x hx => hW'.lt x hx
  refine (walk P a0 A1 n1 c1 f1 A2 n2 c2 f2 W (u64_of w0) hn1 hc1 (fun j hj => by have := u32_of (hw1 j hj); omega) hn2 hc2 (fun j hj => by have := u32_of (hw2 j hj); omega)).mono fun e W' ⟨he, hg⟩ => ?_
  subst he
  refine ⟨_, rfl, post_mem hW' (fun _ _ _ => (trodAll_cons_mk (shut_bool Try.underlying4 _) trodAll_mk0)) (fun sp hsp => ?_) (fun _ => rfl) hg (ok_one (by kernel_rfl) rfl (okWide_bool_mk Try.underlying4 _))⟩
  have hall := (trodAll_cons_mk (arg_same (sp := sp) laid (by kernel_rfl) (of_decide_eq_true (by kernel_rfl)) h0 hg (by intro x hx; simp_all) hlt hsp) (trodAll_cons_mk (arg_same (sp := sp) laid (by kernel_rfl) (of_decide_eq_true (by kernel_rfl)) h1 hg (by intro x hx; simp_all) hlt hsp) (trodAll_cons_mk (arg_same (sp := sp) laid (by kernel_rfl) (of_decide_eq_true (by kernel_rfl)) h2 hg (by intro x hx; simp_all) hlt hsp) trodAll_mk0)))
  try simp only [List.append_nil] at hall
  try simp only [List.nil_append] at hall
  exact hall

theorem over {WI : Nat → Wh → Sp.Item} (P : Prg WI) : Rows.wheelOnceRow.holds Try.pinned (OpenSpec.ofChange Rows.wheelOnceSpec) :=
  OpenClaim.holds_of_wide 6 Try.f6 rfl rfl rfl rfl rfl rfl rfl ⟨rfl, rfl, rfl, rfl, rfl⟩ rfl rfl rfl rfl rfl (by kernel_rfl) Try.func6 (by kernel_rfl)
    (of_decide_eq_true (by kernel_rfl)) (by unfold Func.isWrapper; first | (rw [if_pos (by decide +kernel)]; kernel_rfl) | (rw [if_neg (by decide +kernel)]; exact ⟨rfl, rfl⟩))
    (fun os started H enc _ => lifted P os started H enc)

end Go.Proofs.Ytogfpakopckfoaa.wheelOnce
