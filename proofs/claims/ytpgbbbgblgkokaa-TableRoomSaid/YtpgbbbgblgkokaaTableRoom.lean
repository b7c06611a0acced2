/- For every table, every segment and every first LSN the statement TableRoom about table.Count, Roll, Drop, Room, Used, Len and Free returns true, and changes nothing. Conditions: none. -/
import Derived.Test.YtpgbbbgblgkokaaTbX
import Derived.Test.YtpgbbbgblgkokaaTbP
import Derived.Test.YtpgbbbgblgkokaaTbZ
import Derived.Test.YtpgbbbgblgkokaaTbO
import Derived.Test.YtpgbbbgblgkokaaTbW
import Derived.Test.YtpgbbbgblgkokaaMem
import Derived.Deep.QuietTactic
import Derived.BigQuiet
import Derived.Test.YtpgbbbgblgkokaaClass
import Derived.Deep.DeepCutAuto
import Derived.Deep.LoopGhost
import Derived.Deep.RegionWith
import Derived.StillTailTactics
import Derived.WalkSmall
import Derived.IntWalk
import Derived.ProofKit
import Derived.OpenShut
import Derived.ShutString
import Derived.SizedLaws
namespace Go.Proofs.Ytpgbbbgblgkokaa.tableRoom
open Go.ChangeShapes Go.WideShapes Go.ChangeAt Go.RowKit Go.Lib Go.MapKept
open Go.ChangeMaps (open_string shut_string)
set_option linter.unusedVariables false

theorem own : ownKnob Try.prog.godebug = none := by kernel_rfl
theorem laid : laidOutB Try.prog = true := by kernel_rfl

theorem small_ok {t : Tab} (h : okP t) : Small t.l := ⟨by have := ok_bd h; omega, fun x hx => by have h1 := h.2.2.2.2.2.1 x hx; have h2 := h.2.1; omega⟩
theorem len_bd {t : Tab} {x : Int} (h : okP t) : 0 ≤ lenT t x ∧ lenT t x ≤ 30 := by
  unfold lenT
  split
  · omega
  · have hi := idx_lt (l := t.o) (x := x)
    have h1 := h.2.2.2.2.2.1 (nth t.l (idx t.o x).toNat) (nth_mem (by have := h.2.2.2.2.2.2.1; omega))
    have h2 := h.2.1
    omega
set_option maxRecDepth 100000 in
set_option maxHeartbeats 32000000 in
theorem walk (sg st : Int) (Az : Option Addr) (m0 pz : Nat) (Bz : Option Addr) (k0 qz : Nat) (Cz : Option Addr) (n0 rz : Nat) (o0 l0 f0 : List Int) (a1 a2 : Int) (w : World) (ht0 : TIn w Az m0 Bz k0 Cz n0 o0 l0 f0) (hm0 : m0 ≤ maxLen ∧ k0 ≤ maxLen ∧ n0 ≤ maxLen) (hp0 : m0 ≤ pz ∧ k0 ≤ qz ∧ n0 ≤ rz) (w1 : (Lit.int .i64 a1).wf = true) (w2 : (Lit.int .u64 a2).wf = true) :
    Calls Try.prog 5 #[.agg #[.int .i64 sg, .int .i64 st, .slice Az m0 pz, .slice Bz k0 qz, .slice Cz n0 rz], .int .i64 a1, .int .u64 a2] w fun e w' => e = .returned (.bool true) ∧ Below w.heap.size w w' := by
  have BB := below1 w (.cells #[.int .i64 sg, .int .i64 st, .slice Az m0 pz, .slice Bz k0 qz, .slice Cz n0 rz] 28)
  have Kz : Blk (w.alloc (.cells #[.int .i64 sg, .int .i64 st, .slice Az m0 pz, .slice Bz k0 qz, .slice Cz n0 rz] 28)) w.heap.size 28 (csT sg st Az m0 pz Bz k0 qz Cz n0 rz) := Blk.new w _ _
  have CT := Lib.hid (fun w' => lawcut_any sg st Az m0 pz Bz k0 qz Cz n0 rz w' hm0.1 hm0.2.1 hm0.2.2 hp0.1 hp0.2.1 hp0.2.2)
  have tz0 := ht0.cut
  have hmz : cut20 m0 ≤ maxLen := Nat.le_trans (cut20_self m0) hm0.1
  have hkz : cut20 k0 ≤ maxLen := Nat.le_trans (cut20_self k0) hm0.2.1
  have hnz : cut20 n0 ≤ maxLen := Nat.le_trans (cut20_self n0) hm0.2.2
  have mpz : cut20 m0 ≤ pz := Nat.le_trans (cut20_self m0) hp0.1
  have hv := Try.zeroValue28
  clear ht0 hm0 hp0 w1 w2
  generalize cut20 m0 = mz at *
  generalize cut20 k0 = kz at *
  generalize cut20 n0 = nz at *
  generalize o0.take 20 = o at *
  generalize l0.take 20 = l at *
  generalize f0.take 20 = f at *
  obtain ⟨wa, EW⟩ : ∃ wa, Hid (w.alloc (.cells #[.int .i64 sg, .int .i64 st, .slice Az m0 pz, .slice Bz k0 qz, .slice Cz n0 rz] 28) = wa) := ⟨_, rfl⟩
  rw [EW.out] at BB Kz
  go_enter Try.func5, Try.ntmps5
  go_upto_region 1 with fail
  rw [EW.out]
  clear EW
  go_wp2_with (with_reducible refine load_t rfl (.tmp 3) rfl w.heap.size rfl Kz ?_)
  refine (CT.out _).mono ?_
  rintro e' w1 ⟨rfl, hb⟩
  replace Kz := Kz.later hb
  replace BB := Ge.trans BB hb
  clear hb CT
  go_upto_region 2 with (with_reducible refine store_t rfl (.tmp 3) (.tmp 17) rfl w.heap.size rfl rfl Kz ?_)
  replace BB := below_row BB (Nat.le_refl _) (csT sg st Az mz pz Bz kz qz Cz nz rz)
  replace Kz := Kz.row (csT sg st Az mz pz Bz kz qz Cz nz rz)
  have tz := tz0.later BB
  generalize w1.setRow w.heap.size (csT sg st Az mz pz Bz kz qz Cz nz rz) = wb at *
  obtain ⟨b, Hb⟩ : ∃ b, okT ⟨sg, st, o, l, f⟩ = b := ⟨_, rfl⟩
  go_wp2_with (first | (with_reducible refine load_t rfl (.tmp 3) rfl w.heap.size rfl Kz ?_))
  refine (ref_any sg st Az mz pz Bz kz qz Cz nz rz _).mono ?_
  rintro e' wc ⟨rfl, hb⟩
  replace Kz := Kz.later hb
  replace tz := tz.later hb
  replace BB := Ge.trans BB hb
  clear hb
  go_wp2_with (first | (with_reducible refine load_t rfl (.tmp 3) rfl w.heap.size rfl Kz ?_))
  refine (rright_is sg st Az mz pz Bz kz qz Cz nz rz o l f b _ tz hmz hkz hnz Hb).mono ?_
  rintro e' wd ⟨rfl, hb⟩
  replace Kz := Kz.later hb
  replace tz := tz.later hb
  replace BB := Ge.trans BB hb
  clear hb
  cases b
  case false =>
    go_wp2_with (first | (with_reducible refine load_t rfl (.tmp 3) rfl w.heap.size rfl Kz ?_))
    refine (right_is sg st Az mz pz Bz kz qz Cz nz rz o l f false _ tz hmz hkz hnz mpz Hb).mono ?_
    rintro e' we ⟨rfl, hb⟩
    replace Kz := Kz.later hb
    replace tz := tz.later hb
    replace BB := Ge.trans BB hb
    clear hb
    go_wp2_with (first | (with_reducible refine load_t rfl (.tmp 3) rfl w.heap.size rfl Kz ?_))
    refine (fixed_any _).mono ?_
    rintro e' wf ⟨rfl, hb⟩
    replace Kz := Kz.later hb
    replace tz := tz.later hb
    replace BB := Ge.trans BB hb
    clear hb
    go_wp2_with fail
    go_ret
    exact ⟨rfl, BB⟩
  case true =>
    have hok := (okT_iff _).1 Hb
    clear Hb
    have hbd := ok_bounds hok
    have hm1 := (ok_full hok tz).2.1
    have hk1 := (ok_full hok tz).2.2.1
    have hmo : mz = o.length := tz.a.len
    obtain ⟨gg, off, rfl, hbb, hcell⟩ := last_cell tz0.b (by omega)
    clear tz0
    obtain ⟨z, HZ⟩ : ∃ z, Hid (lastN l = z) := ⟨_, Lib.hid rfl⟩
    rw [HZ.out] at hcell
    obtain ⟨R, HR⟩ : ∃ R, Hid (roomT ⟨sg, st, o, l, f⟩ = R) := ⟨_, Lib.hid rfl⟩
    obtain ⟨U, HU⟩ : ∃ R, Hid (usedT ⟨sg, st, o, l, f⟩ = R) := ⟨_, Lib.hid rfl⟩
    obtain ⟨O, HO⟩ : ∃ R, Hid (openT ⟨sg, st, o, l, f⟩ = R) := ⟨_, Lib.hid rfl⟩
    have bR : 0 ≤ R ∧ R ≤ 480 := HR.out ▸ hbd.r
    have bU : 0 ≤ U ∧ U ≤ 480 := HU.out ▸ hbd.u
    have bO : 0 ≤ O ∧ O ≤ 30 := HO.out ▸ hbd.o
    have HB := Lib.hid hbd
    have HK := Lib.hid hok
    have HM := Lib.hid hmo
    have sg0 := hok.1
    have st0 := hok.2.1
    simp only at sg0 st0
    clear hbd hmo hok
    obtain ⟨i, Hi⟩ : ∃ i, Hid (kz - 1 = i) := ⟨_, Lib.hid rfl⟩
    rw [Hi.out] at hcell
    have hiki : (i : Int) < (kz : Int) := by have := Hi.out; omega
    have hk2 : 1 ≤ kz ∧ kz ≤ 16 := by omega
    clear hk1
    have q0 : IntKind.i64.wrap ((kz : Int) - 1) = (i : Int) := by rw [IntWalk.i64_in _ (by omega)]; have := Hi.out; omega
    have q1 : IntKind.i64.wrap (st - z) = O := by
      have h1 : st - z = O := by rw [← HO.out, ← HZ.out]; rfl
      rw [h1]; exact IntWalk.i64_in _ (by omega)
    go_wp2_with (first | (with_reducible refine load_t rfl (.tmp 3) rfl w.heap.size rfl Kz ?_))
    have I : Its w [(w.heap.size, 28, csT sg st Az mz pz (some ⟨gg, off, none⟩) kz qz Cz nz rz)] [(.i64, Az, mz, o), (.i64, (some ⟨gg, off, none⟩), kz, l), (.u64, Cz, nz, f)] wd := ((Its.nil BB).cons Kz).tcons tz
    clear BB Kz tz
    have hne : Nonempty (In (Its w [(w.heap.size, 28, csT sg st Az mz pz (some ⟨gg, off, none⟩) kz qz Cz nz rz)] [(.i64, Az, mz, o), (.i64, (some ⟨gg, off, none⟩), kz, l), (.u64, Cz, nz, f)])) := ⟨⟨_, I⟩⟩
    have fz0 : ∀ j : In (Its w [(w.heap.size, 28, csT sg st Az mz pz (some ⟨gg, off, none⟩) kz qz Cz nz rz)] [(.i64, Az, mz, o), (.i64, (some ⟨gg, off, none⟩), kz, l), (.u64, Cz, nz, f)]), j.W.cell? ⟨w.heap.size, 0, none⟩ = some (.int .i64 sg) := fun j => (j.h.at_ 0 rfl).cell 0
    have fz1 : ∀ j : In (Its w [(w.heap.size, 28, csT sg st Az mz pz (some ⟨gg, off, none⟩) kz qz Cz nz rz)] [(.i64, Az, mz, o), (.i64, (some ⟨gg, off, none⟩), kz, l), (.u64, Cz, nz, f)]), j.W.cell? ⟨w.heap.size, 1, none⟩ = some (.int .i64 st) := fun j => (j.h.at_ 0 rfl).cell 1
    have fz2 : ∀ j : In (Its w [(w.heap.size, 28, csT sg st Az mz pz (some ⟨gg, off, none⟩) kz qz Cz nz rz)] [(.i64, Az, mz, o), (.i64, (some ⟨gg, off, none⟩), kz, l), (.u64, Cz, nz, f)]), j.W.cell? ⟨w.heap.size, 2, none⟩ = some (.slice Az mz pz) := fun j => (j.h.at_ 0 rfl).cell 2
    have fz3 : ∀ j : In (Its w [(w.heap.size, 28, csT sg st Az mz pz (some ⟨gg, off, none⟩) kz qz Cz nz rz)] [(.i64, Az, mz, o), (.i64, (some ⟨gg, off, none⟩), kz, l), (.u64, Cz, nz, f)]), j.W.cell? ⟨w.heap.size, 3, none⟩ = some (.slice (some ⟨gg, off, none⟩) kz qz) := fun j => (j.h.at_ 0 rfl).cell 3
    have fz4 : ∀ j : In (Its w [(w.heap.size, 28, csT sg st Az mz pz (some ⟨gg, off, none⟩) kz qz Cz nz rz)] [(.i64, Az, mz, o), (.i64, (some ⟨gg, off, none⟩), kz, l), (.u64, Cz, nz, f)]), j.W.cell? ⟨w.heap.size, 4, none⟩ = some (.slice Cz nz rz) := fun j => (j.h.at_ 0 rfl).cell 4
    have fe : ∀ j : In (Its w [(w.heap.size, 28, csT sg st Az mz pz (some ⟨gg, off, none⟩) kz qz Cz nz rz)] [(.i64, Az, mz, o), (.i64, (some ⟨gg, off, none⟩), kz, l), (.u64, Cz, nz, f)]), j.W.cell? ⟨gg, off + i, none⟩ = some (.int .i64 z) := fun j => ((bcell j.h.b).1 gg (off + i) hbb).trans hcell
    have Q1 := Lib.hid (fun W (hi : Its w [(w.heap.size, 28, csT sg st Az mz pz (some ⟨gg, off, none⟩) kz qz Cz nz rz)] [(.i64, Az, mz, o), (.i64, (some ⟨gg, off, none⟩), kz, l), (.u64, Cz, nz, f)] W) => room_is sg st Az mz pz (some ⟨gg, off, none⟩) kz qz Cz nz rz o l f R W (hi.tab 0 rfl rfl rfl) HK.out HR.out)
    have Q2 := Lib.hid (fun W (hi : Its w [(w.heap.size, 28, csT sg st Az mz pz (some ⟨gg, off, none⟩) kz qz Cz nz rz)] [(.i64, Az, mz, o), (.i64, (some ⟨gg, off, none⟩), kz, l), (.u64, Cz, nz, f)] W) => used_is sg st Az mz pz (some ⟨gg, off, none⟩) kz qz Cz nz rz o l f U W (hi.tab 0 rfl rfl rfl) (small_ok HK.out) HU.out)
    refine region_class (Its w [(w.heap.size, 28, csT sg st Az mz pz (some ⟨gg, off, none⟩) kz qz Cz nz rz)] [(.i64, Az, mz, o), (.i64, (some ⟨gg, off, none⟩), kz, l), (.u64, Cz, nz, f)]) (by kernel_rfl) (by kernel_rfl) I.drawn ?_
    go_big_quiet_step (fail)
    go_big_quiet_step ((go_at_call 19; with_reducible exact class_call _ (fun hi => its_ge hi (Q1.out _ hi))))
    repeat (go_big_quiet_step (first
      | (go_at_call 19; with_reducible exact class_call _ (fun hi => its_ge hi (Q1.out _ hi)))
      | (go_at_call 21; with_reducible exact class_call _ (fun hi => its_ge hi (Q2.out _ hi)))))
    refine wpQuiet_nil ?_
    rintro _ ⟨j, rfl⟩
    have I4 := j.h
    clear fz0 fz1 fz2 fz3 fz4 fe Q1 Q2 I hne
    generalize j.W = w4 at *
    clear j
    have BB := I4.b
    have Kz := I4.at_ 0 rfl
    have tz := I4.tab 0 rfl rfl rfl
    clear I4 hcell hbb
    simp only at Kz
    obtain ⟨⟨sga, sta, oa, la, fa⟩, Ha⟩ : ∃ u, Hid (tabOf (countT ⟨sg, st, o, l, f⟩) = u) := ⟨_, Lib.hid rfl⟩
    obtain ⟨era, Ya⟩ : ∃ y, Hid (errOf (countT ⟨sg, st, o, l, f⟩) 10 = y) := ⟨_, Lib.hid rfl⟩
    go_wp2_with (first | (with_reducible refine load_t rfl (.tmp 3) rfl w.heap.size rfl Kz ?_))
    refine (resv (sg := sga) (st := sta) (o := oa) (l := la) (f' := fa) (y' := era) (count_any sg st Az mz pz (some ⟨gg, off, none⟩) kz qz Cz nz rz o l f _ tz HK.out) Ha.out Ya.out).mono ?_
    rintro e' wa ⟨Aa, ma, pa, Ba, ka, qa, Ca, na, ra, rfl, ta, mpa, fra, hb⟩
    clear fra
    replace Kz := Kz.later hb
    replace tz := tz.later hb
    replace BB := Ge.trans BB hb
    clear hb
    have Na : Blk (wa.alloc (.cells #[.int .i64 0, .int .i64 0, .slice none 0 0, .slice none 0 0, .slice none 0 0] 28)) wa.heap.size 28 (csT 0 0 none 0 0 none 0 0 none 0 0) := Blk.new wa _ _
    go_upto_region 6 with (with_reducible refine store_t rfl (.tmp 10) (.tmp 46) rfl wa.heap.size rfl rfl Na ?_)
    have hb3 : Below wa.heap.size wa ((wa.alloc (.cells #[.int .i64 0, .int .i64 0, .slice none 0 0, .slice none 0 0, .slice none 0 0] 28)).setRow wa.heap.size (csT sga sta Aa ma pa Ba ka qa Ca na ra)) := below_row (below1 _ _) (Nat.le_refl _) _
    have Ka : Blk ((wa.alloc (.cells #[.int .i64 0, .int .i64 0, .slice none 0 0, .slice none 0 0, .slice none 0 0] 28)).setRow wa.heap.size (csT sga sta Aa ma pa Ba ka qa Ca na ra)) wa.heap.size 28 (csT sga sta Aa ma pa Ba ka qa Ca na ra) := Na.row _
    replace Kz := Kz.later hb3
    replace tz := tz.later hb3
    replace ta := ta.later hb3
    replace BB := Ge.trans BB hb3
    clear hb3 Na
    generalize (wa.alloc (.cells #[.int .i64 0, .int .i64 0, .slice none 0 0, .slice none 0 0, .slice none 0 0] 28)).setRow wa.heap.size (csT sga sta Aa ma pa Ba ka qa Ca na ra) = ya at *
    generalize wa.heap.size = ba at *
    go_cut [75] (fun s75 wx => s75 = .bool false ∧ Its w [(w.heap.size, 28, csT sg st Az mz pz (some ⟨gg, off, none⟩) kz qz Cz nz rz)] [(.i64, Az, mz, o), (.i64, (some ⟨gg, off, none⟩), kz, l), (.u64, Cz, nz, f)] wx)
    case first =>
      rcases count_case HK.out with ⟨hc1, ho⟩ | ⟨u, hc1, hu, ho, hr, hs⟩
      · obtain rfl : O = 0 := by rw [← HO.out]; exact ho
        clear ho
        obtain rfl : era = 10 := by rw [← Ya.out, hc1]; rfl
        go_wp2_with fail
        go_meet
        exact ⟨rfl, ((Its.nil BB).cons Kz).tcons tz⟩
      · have hO : 0 < O := by rw [← HO.out]; exact ho
        clear ho
        obtain ⟨R1, r1⟩ : ∃ x, Hid (R - 1 = x) := ⟨_, Lib.hid rfl⟩
        obtain ⟨U1, r2⟩ : ∃ x, Hid (U + 1 = x) := ⟨_, Lib.hid rfl⟩
        have x1 : IntKind.i64.wrap (R - 1) = R1 := by rw [r1.out]; exact IntWalk.i64_in _ (by have := r1.out; omega)
        have x2 : IntKind.i64.wrap (U + 1) = U1 := by rw [r2.out]; exact IntWalk.i64_in _ (by have := r2.out; omega)
        obtain rfl : era = 0 := by rw [← Ya.out, hc1]; rfl
        obtain rfl : u = ⟨sga, sta, oa, la, fa⟩ := by have := Ha.out; rw [hc1] at this; exact this
        have HU1 := Lib.hid hu
        obtain ⟨hmla, hkla, hnla⟩ := (ok_full hu ta).2.2.2.2
        clear hu
        have R1e : roomT ⟨sga, sta, oa, la, fa⟩ = R1 := by rw [hr, HR.out, r1.out]
        have U1e : usedT ⟨sga, sta, oa, la, fa⟩ = U1 := by rw [hs, HU.out, r2.out]
        clear hr hs
        have e0a : ya.cell? ⟨ba, 0, none⟩ = some (.int .i64 sga) := Ka.cell 0
        have e1a : ya.cell? ⟨ba, 1, none⟩ = some (.int .i64 sta) := Ka.cell 1
        have e2a : ya.cell? ⟨ba, 2, none⟩ = some (.slice Aa ma pa) := Ka.cell 2
        have e3a : ya.cell? ⟨ba, 3, none⟩ = some (.slice Ba ka qa) := Ka.cell 3
        have e4a : ya.cell? ⟨ba, 4, none⟩ = some (.slice Ca na ra) := Ka.cell 4
        go_wp2_with (first | (with_reducible refine load_t rfl (.tmp 3) rfl w.heap.size rfl Kz ?_) | (with_reducible refine load_t rfl (.tmp 10) rfl ba rfl Ka ?_))
        clear e0a e1a e2a e3a e4a
        refine (right_is sga sta Aa ma pa Ba ka qa Ca na ra oa la fa true _ ta hmla hkla hnla mpa ((okT_iff _).2 HU1.out)).mono ?_
        rintro e' u1 ⟨rfl, hb⟩
        replace Kz := Kz.later hb
        replace tz := tz.later hb
        replace ta := ta.later hb
        replace Ka := Ka.later hb
        replace BB := Ge.trans BB hb
        clear hb
        have e0a : u1.cell? ⟨ba, 0, none⟩ = some (.int .i64 sga) := Ka.cell 0
        have e1a : u1.cell? ⟨ba, 1, none⟩ = some (.int .i64 sta) := Ka.cell 1
        have e2a : u1.cell? ⟨ba, 2, none⟩ = some (.slice Aa ma pa) := Ka.cell 2
        have e3a : u1.cell? ⟨ba, 3, none⟩ = some (.slice Ba ka qa) := Ka.cell 3
        have e4a : u1.cell? ⟨ba, 4, none⟩ = some (.slice Ca na ra) := Ka.cell 4
        go_wp2_with (first | (with_reducible refine load_t rfl (.tmp 3) rfl w.heap.size rfl Kz ?_) | (with_reducible refine load_t rfl (.tmp 10) rfl ba rfl Ka ?_))
        clear e0a e1a e2a e3a e4a
        refine (room_is sga sta Aa ma pa Ba ka qa Ca na ra oa la fa R1 _ ta HU1.out R1e).mono ?_
        rintro e' u2 ⟨rfl, hb⟩
        replace Kz := Kz.later hb
        replace tz := tz.later hb
        replace ta := ta.later hb
        replace Ka := Ka.later hb
        replace BB := Ge.trans BB hb
        clear hb
        have e0a : u2.cell? ⟨ba, 0, none⟩ = some (.int .i64 sga) := Ka.cell 0
        have e1a : u2.cell? ⟨ba, 1, none⟩ = some (.int .i64 sta) := Ka.cell 1
        have e2a : u2.cell? ⟨ba, 2, none⟩ = some (.slice Aa ma pa) := Ka.cell 2
        have e3a : u2.cell? ⟨ba, 3, none⟩ = some (.slice Ba ka qa) := Ka.cell 3
        have e4a : u2.cell? ⟨ba, 4, none⟩ = some (.slice Ca na ra) := Ka.cell 4
        go_wp2_with (first | (with_reducible refine load_t rfl (.tmp 3) rfl w.heap.size rfl Kz ?_) | (with_reducible refine load_t rfl (.tmp 10) rfl ba rfl Ka ?_))
        clear e0a e1a e2a e3a e4a
        refine (used_is sga sta Aa ma pa Ba ka qa Ca na ra oa la fa U1 _ ta (small_ok HU1.out) U1e).mono ?_
        rintro e' u3 ⟨rfl, hb⟩
        replace Kz := Kz.later hb
        replace tz := tz.later hb
        replace ta := ta.later hb
        replace Ka := Ka.later hb
        replace BB := Ge.trans BB hb
        clear hb
        have e0a : u3.cell? ⟨ba, 0, none⟩ = some (.int .i64 sga) := Ka.cell 0
        have e1a : u3.cell? ⟨ba, 1, none⟩ = some (.int .i64 sta) := Ka.cell 1
        have e2a : u3.cell? ⟨ba, 2, none⟩ = some (.slice Aa ma pa) := Ka.cell 2
        have e3a : u3.cell? ⟨ba, 3, none⟩ = some (.slice Ba ka qa) := Ka.cell 3
        have e4a : u3.cell? ⟨ba, 4, none⟩ = some (.slice Ca na ra) := Ka.cell 4
        go_wp2_with (first | (with_reducible refine load_t rfl (.tmp 3) rfl w.heap.size rfl Kz ?_) | (with_reducible refine load_t rfl (.tmp 10) rfl ba rfl Ka ?_))
        clear e0a e1a e2a e3a e4a
        go_meet
        exact ⟨rfl, ((Its.nil BB).cons Kz).tcons tz⟩
    case rest =>
    obtain ⟨rfl, I4⟩ := hcut
    clear BB Kz tz Ka ta Ha Ya mpa
    have BB := I4.b
    have Kz := I4.at_ 0 rfl
    have tz := I4.tab 0 rfl rfl rfl
    clear I4
    simp only at Kz
    obtain ⟨⟨sgb, stb, ob, lb, fb⟩, Hb⟩ : ∃ u, Hid (tabOf (rollT ⟨sg, st, o, l, f⟩ a2) = u) := ⟨_, Lib.hid rfl⟩
    obtain ⟨erb, Yb⟩ : ∃ y, Hid (errOf (rollT ⟨sg, st, o, l, f⟩ a2) 10 = y) := ⟨_, Lib.hid rfl⟩
    go_wp2_with (first | (with_reducible refine load_t rfl (.tmp 3) rfl w.heap.size rfl Kz ?_))
    refine (resv (sg := sgb) (st := stb) (o := ob) (l := lb) (f' := fb) (y' := erb) (roll_any sg st Az mz pz (some ⟨gg, off, none⟩) kz qz Cz nz rz o l f a2 _ tz HK.out) Hb.out Yb.out).mono ?_
    rintro e' wb ⟨Ab, mb, pb, Bb, kb, qb, Cb, nb, rb, rfl, tb, mpb, frb, hb⟩
    clear frb
    replace Kz := Kz.later hb
    replace tz := tz.later hb
    replace BB := Ge.trans BB hb
    clear hb
    have Nb : Blk (wb.alloc (.cells #[.int .i64 0, .int .i64 0, .slice none 0 0, .slice none 0 0, .slice none 0 0] 28)) wb.heap.size 28 (csT 0 0 none 0 0 none 0 0 none 0 0) := Blk.new wb _ _
    go_upto_region 9 with (with_reducible refine store_t rfl (.tmp 12) (.tmp 80) rfl wb.heap.size rfl rfl Nb ?_)
    have hb3 : Below wb.heap.size wb ((wb.alloc (.cells #[.int .i64 0, .int .i64 0, .slice none 0 0, .slice none 0 0, .slice none 0 0] 28)).setRow wb.heap.size (csT sgb stb Ab mb pb Bb kb qb Cb nb rb)) := below_row (below1 _ _) (Nat.le_refl _) _
    have Kb : Blk ((wb.alloc (.cells #[.int .i64 0, .int .i64 0, .slice none 0 0, .slice none 0 0, .slice none 0 0] 28)).setRow wb.heap.size (csT sgb stb Ab mb pb Bb kb qb Cb nb rb)) wb.heap.size 28 (csT sgb stb Ab mb pb Bb kb qb Cb nb rb) := Nb.row _
    replace Kz := Kz.later hb3
    replace tz := tz.later hb3
    replace tb := tb.later hb3
    replace BB := Ge.trans BB hb3
    clear hb3 Nb
    generalize (wb.alloc (.cells #[.int .i64 0, .int .i64 0, .slice none 0 0, .slice none 0 0, .slice none 0 0] 28)).setRow wb.heap.size (csT sgb stb Ab mb pb Bb kb qb Cb nb rb) = yb at *
    generalize wb.heap.size = bb at *
    go_cut [113] (fun s113 wx => s113 = .bool false ∧ Its w [(w.heap.size, 28, csT sg st Az mz pz (some ⟨gg, off, none⟩) kz qz Cz nz rz)] [(.i64, Az, mz, o), (.i64, (some ⟨gg, off, none⟩), kz, l), (.u64, Cz, nz, f)] wx)
    case first =>
      rcases roll_case a2 HK.out with ⟨hc1, ho⟩ | ⟨u, hc1, hu, ho, hr, hs⟩
      · have hlt : ¬ (mz : Int) < sg := by have := HM.out; simp only at ho; omega
        clear ho
        obtain rfl : erb = 10 := by rw [← Yb.out, hc1]; rfl
        have e0z : yb.cell? ⟨w.heap.size, 0, none⟩ = some (.int .i64 sg) := Kz.cell 0
        have e1z : yb.cell? ⟨w.heap.size, 1, none⟩ = some (.int .i64 st) := Kz.cell 1
        have e2z : yb.cell? ⟨w.heap.size, 2, none⟩ = some (.slice Az mz pz) := Kz.cell 2
        have e3z : yb.cell? ⟨w.heap.size, 3, none⟩ = some (.slice (some ⟨gg, off, none⟩) kz qz) := Kz.cell 3
        have e4z : yb.cell? ⟨w.heap.size, 4, none⟩ = some (.slice Cz nz rz) := Kz.cell 4
        go_wp2_with (first | (with_reducible refine load_t rfl (.tmp 3) rfl w.heap.size rfl Kz ?_) | (with_reducible refine load_t rfl (.tmp 12) rfl bb rfl Kb ?_))
        clear e0z e1z e2z e3z e4z
        go_meet
        exact ⟨rfl, ((Its.nil BB).cons Kz).tcons tz⟩
      · have hlt : (mz : Int) < sg := by have := HM.out; simp only at ho; omega
        clear ho
        obtain ⟨R1, r1⟩ : ∃ x, Hid (R - O = x) := ⟨_, Lib.hid rfl⟩
        have x1 : IntKind.i64.wrap (R - O) = R1 := by rw [r1.out]; exact IntWalk.i64_in _ (by have := r1.out; omega)
        obtain rfl : erb = 0 := by rw [← Yb.out, hc1]; rfl
        obtain rfl : u = ⟨sgb, stb, ob, lb, fb⟩ := by have := Hb.out; rw [hc1] at this; exact this
        have HU1 := Lib.hid hu
        obtain ⟨hmlb, hklb, hnlb⟩ := (ok_full hu tb).2.2.2.2
        clear hu
        have R1e : roomT ⟨sgb, stb, ob, lb, fb⟩ = R1 := by rw [hr, HR.out, HO.out, r1.out]
        have Ue : usedT ⟨sgb, stb, ob, lb, fb⟩ = U := by rw [hs, HU.out]
        clear hr hs
        have e0b : yb.cell? ⟨bb, 0, none⟩ = some (.int .i64 sgb) := Kb.cell 0
        have e1b : yb.cell? ⟨bb, 1, none⟩ = some (.int .i64 stb) := Kb.cell 1
        have e2b : yb.cell? ⟨bb, 2, none⟩ = some (.slice Ab mb pb) := Kb.cell 2
        have e3b : yb.cell? ⟨bb, 3, none⟩ = some (.slice Bb kb qb) := Kb.cell 3
        have e4b : yb.cell? ⟨bb, 4, none⟩ = some (.slice Cb nb rb) := Kb.cell 4
        go_wp2_with (first | (with_reducible refine load_t rfl (.tmp 3) rfl w.heap.size rfl Kz ?_) | (with_reducible refine load_t rfl (.tmp 12) rfl bb rfl Kb ?_))
        clear e0b e1b e2b e3b e4b
        refine (right_is sgb stb Ab mb pb Bb kb qb Cb nb rb ob lb fb true _ tb hmlb hklb hnlb mpb ((okT_iff _).2 HU1.out)).mono ?_
        rintro e' u1 ⟨rfl, hb⟩
        replace Kz := Kz.later hb
        replace tz := tz.later hb
        replace tb := tb.later hb
        replace Kb := Kb.later hb
        replace BB := Ge.trans BB hb
        clear hb
        have e0b : u1.cell? ⟨bb, 0, none⟩ = some (.int .i64 sgb) := Kb.cell 0
        have e1b : u1.cell? ⟨bb, 1, none⟩ = some (.int .i64 stb) := Kb.cell 1
        have e2b : u1.cell? ⟨bb, 2, none⟩ = some (.slice Ab mb pb) := Kb.cell 2
        have e3b : u1.cell? ⟨bb, 3, none⟩ = some (.slice Bb kb qb) := Kb.cell 3
        have e4b : u1.cell? ⟨bb, 4, none⟩ = some (.slice Cb nb rb) := Kb.cell 4
        go_wp2_with (first | (with_reducible refine load_t rfl (.tmp 3) rfl w.heap.size rfl Kz ?_) | (with_reducible refine load_t rfl (.tmp 12) rfl bb rfl Kb ?_))
        clear e0b e1b e2b e3b e4b
        refine (room_is sgb stb Ab mb pb Bb kb qb Cb nb rb ob lb fb R1 _ tb HU1.out R1e).mono ?_
        rintro e' u2 ⟨rfl, hb⟩
        replace Kz := Kz.later hb
        replace tz := tz.later hb
        replace tb := tb.later hb
        replace Kb := Kb.later hb
        replace BB := Ge.trans BB hb
        clear hb
        have e0b : u2.cell? ⟨bb, 0, none⟩ = some (.int .i64 sgb) := Kb.cell 0
        have e1b : u2.cell? ⟨bb, 1, none⟩ = some (.int .i64 stb) := Kb.cell 1
        have e2b : u2.cell? ⟨bb, 2, none⟩ = some (.slice Ab mb pb) := Kb.cell 2
        have e3b : u2.cell? ⟨bb, 3, none⟩ = some (.slice Bb kb qb) := Kb.cell 3
        have e4b : u2.cell? ⟨bb, 4, none⟩ = some (.slice Cb nb rb) := Kb.cell 4
        go_wp2_with (first | (with_reducible refine load_t rfl (.tmp 3) rfl w.heap.size rfl Kz ?_) | (with_reducible refine load_t rfl (.tmp 12) rfl bb rfl Kb ?_))
        clear e0b e1b e2b e3b e4b
        refine (used_is sgb stb Ab mb pb Bb kb qb Cb nb rb ob lb fb U _ tb (small_ok HU1.out) Ue).mono ?_
        rintro e' u3 ⟨rfl, hb⟩
        replace Kz := Kz.later hb
        replace tz := tz.later hb
        replace tb := tb.later hb
        replace Kb := Kb.later hb
        replace BB := Ge.trans BB hb
        clear hb
        have e0z : u3.cell? ⟨w.heap.size, 0, none⟩ = some (.int .i64 sg) := Kz.cell 0
        have e1z : u3.cell? ⟨w.heap.size, 1, none⟩ = some (.int .i64 st) := Kz.cell 1
        have e2z : u3.cell? ⟨w.heap.size, 2, none⟩ = some (.slice Az mz pz) := Kz.cell 2
        have e3z : u3.cell? ⟨w.heap.size, 3, none⟩ = some (.slice (some ⟨gg, off, none⟩) kz qz) := Kz.cell 3
        have e4z : u3.cell? ⟨w.heap.size, 4, none⟩ = some (.slice Cz nz rz) := Kz.cell 4
        go_wp2_with (first | (with_reducible refine load_t rfl (.tmp 3) rfl w.heap.size rfl Kz ?_) | (with_reducible refine load_t rfl (.tmp 12) rfl bb rfl Kb ?_))
        clear e0z e1z e2z e3z e4z
        go_meet
        exact ⟨rfl, ((Its.nil BB).cons Kz).tcons tz⟩
    case rest =>
    obtain ⟨rfl, I4⟩ := hcut
    clear BB Kz tz Kb tb Hb Yb mpb
    have BB := I4.b
    have Kz := I4.at_ 0 rfl
    have tz := I4.tab 0 rfl rfl rfl
    clear I4
    simp only at Kz
    obtain ⟨⟨sgc, stc, oc, lc, fc⟩, Hc⟩ : ∃ u, Hid (tabOf (dropT ⟨sg, st, o, l, f⟩ a1) = u) := ⟨_, Lib.hid rfl⟩
    obtain ⟨erc, Yc⟩ : ∃ y, Hid (errOf (dropT ⟨sg, st, o, l, f⟩ a1) 1 = y) := ⟨_, Lib.hid rfl⟩
    go_wp2_with (first | (with_reducible refine load_t rfl (.tmp 3) rfl w.heap.size rfl Kz ?_))
    refine (resv (sg := sgc) (st := stc) (o := oc) (l := lc) (f' := fc) (y' := erc) (drop_any sg st Az mz pz (some ⟨gg, off, none⟩) kz qz Cz nz rz o l f a1 _ tz HK.out) Hc.out Yc.out).mono ?_
    rintro e' wc ⟨Ac, mc, pc, Bc, kc, qc, Cc, nc, rc, rfl, tc, mpc, frc, hb⟩
    clear frc
    replace Kz := Kz.later hb
    replace tz := tz.later hb
    replace BB := Ge.trans BB hb
    clear hb
    have Nc : Blk (wc.alloc (.cells #[.int .i64 0, .int .i64 0, .slice none 0 0, .slice none 0 0, .slice none 0 0] 28)) wc.heap.size 28 (csT 0 0 none 0 0 none 0 0 none 0 0) := Blk.new wc _ _
    go_upto_region 12 with (with_reducible refine store_t rfl (.tmp 14) (.tmp 118) rfl wc.heap.size rfl rfl Nc ?_)
    have hb3 : Below wc.heap.size wc ((wc.alloc (.cells #[.int .i64 0, .int .i64 0, .slice none 0 0, .slice none 0 0, .slice none 0 0] 28)).setRow wc.heap.size (csT sgc stc Ac mc pc Bc kc qc Cc nc rc)) := below_row (below1 _ _) (Nat.le_refl _) _
    have Kc : Blk ((wc.alloc (.cells #[.int .i64 0, .int .i64 0, .slice none 0 0, .slice none 0 0, .slice none 0 0] 28)).setRow wc.heap.size (csT sgc stc Ac mc pc Bc kc qc Cc nc rc)) wc.heap.size 28 (csT sgc stc Ac mc pc Bc kc qc Cc nc rc) := Nc.row _
    replace Kz := Kz.later hb3
    replace tz := tz.later hb3
    replace tc := tc.later hb3
    replace BB := Ge.trans BB hb3
    clear hb3 Nc
    generalize (wc.alloc (.cells #[.int .i64 0, .int .i64 0, .slice none 0 0, .slice none 0 0, .slice none 0 0] 28)).setRow wc.heap.size (csT sgc stc Ac mc pc Bc kc qc Cc nc rc) = yc at *
    generalize wc.heap.size = bc at *
    have I : Its w [(w.heap.size, 28, csT sg st Az mz pz (some ⟨gg, off, none⟩) kz qz Cz nz rz), (bc, 28, csT sgc stc Ac mc pc Bc kc qc Cc nc rc)] [(.i64, Az, mz, o), (.i64, (some ⟨gg, off, none⟩), kz, l), (.u64, Cz, nz, f), (.i64, Ac, mc, oc), (.i64, Bc, kc, lc), (.u64, Cc, nc, fc)] yc := ((((Its.nil BB).cons Kc).cons Kz).tcons tc).tcons tz
    clear BB Kz tz Kc
    have hne : Nonempty (In (Its w [(w.heap.size, 28, csT sg st Az mz pz (some ⟨gg, off, none⟩) kz qz Cz nz rz), (bc, 28, csT sgc stc Ac mc pc Bc kc qc Cc nc rc)] [(.i64, Az, mz, o), (.i64, (some ⟨gg, off, none⟩), kz, l), (.u64, Cz, nz, f), (.i64, Ac, mc, oc), (.i64, Bc, kc, lc), (.u64, Cc, nc, fc)])) := ⟨⟨_, I⟩⟩
    have fz0 : ∀ j : In (Its w [(w.heap.size, 28, csT sg st Az mz pz (some ⟨gg, off, none⟩) kz qz Cz nz rz), (bc, 28, csT sgc stc Ac mc pc Bc kc qc Cc nc rc)] [(.i64, Az, mz, o), (.i64, (some ⟨gg, off, none⟩), kz, l), (.u64, Cz, nz, f), (.i64, Ac, mc, oc), (.i64, Bc, kc, lc), (.u64, Cc, nc, fc)]), j.W.cell? ⟨w.heap.size, 0, none⟩ = some (.int .i64 sg) := fun j => (j.h.at_ 0 rfl).cell 0
    have fz1 : ∀ j : In (Its w [(w.heap.size, 28, csT sg st Az mz pz (some ⟨gg, off, none⟩) kz qz Cz nz rz), (bc, 28, csT sgc stc Ac mc pc Bc kc qc Cc nc rc)] [(.i64, Az, mz, o), (.i64, (some ⟨gg, off, none⟩), kz, l), (.u64, Cz, nz, f), (.i64, Ac, mc, oc), (.i64, Bc, kc, lc), (.u64, Cc, nc, fc)]), j.W.cell? ⟨w.heap.size, 1, none⟩ = some (.int .i64 st) := fun j => (j.h.at_ 0 rfl).cell 1
    have fz2 : ∀ j : In (Its w [(w.heap.size, 28, csT sg st Az mz pz (some ⟨gg, off, none⟩) kz qz Cz nz rz), (bc, 28, csT sgc stc Ac mc pc Bc kc qc Cc nc rc)] [(.i64, Az, mz, o), (.i64, (some ⟨gg, off, none⟩), kz, l), (.u64, Cz, nz, f), (.i64, Ac, mc, oc), (.i64, Bc, kc, lc), (.u64, Cc, nc, fc)]), j.W.cell? ⟨w.heap.size, 2, none⟩ = some (.slice Az mz pz) := fun j => (j.h.at_ 0 rfl).cell 2
    have fz3 : ∀ j : In (Its w [(w.heap.size, 28, csT sg st Az mz pz (some ⟨gg, off, none⟩) kz qz Cz nz rz), (bc, 28, csT sgc stc Ac mc pc Bc kc qc Cc nc rc)] [(.i64, Az, mz, o), (.i64, (some ⟨gg, off, none⟩), kz, l), (.u64, Cz, nz, f), (.i64, Ac, mc, oc), (.i64, Bc, kc, lc), (.u64, Cc, nc, fc)]), j.W.cell? ⟨w.heap.size, 3, none⟩ = some (.slice (some ⟨gg, off, none⟩) kz qz) := fun j => (j.h.at_ 0 rfl).cell 3
    have fz4 : ∀ j : In (Its w [(w.heap.size, 28, csT sg st Az mz pz (some ⟨gg, off, none⟩) kz qz Cz nz rz), (bc, 28, csT sgc stc Ac mc pc Bc kc qc Cc nc rc)] [(.i64, Az, mz, o), (.i64, (some ⟨gg, off, none⟩), kz, l), (.u64, Cz, nz, f), (.i64, Ac, mc, oc), (.i64, Bc, kc, lc), (.u64, Cc, nc, fc)]), j.W.cell? ⟨w.heap.size, 4, none⟩ = some (.slice Cz nz rz) := fun j => (j.h.at_ 0 rfl).cell 4
    have fc0 : ∀ j : In (Its w [(w.heap.size, 28, csT sg st Az mz pz (some ⟨gg, off, none⟩) kz qz Cz nz rz), (bc, 28, csT sgc stc Ac mc pc Bc kc qc Cc nc rc)] [(.i64, Az, mz, o), (.i64, (some ⟨gg, off, none⟩), kz, l), (.u64, Cz, nz, f), (.i64, Ac, mc, oc), (.i64, Bc, kc, lc), (.u64, Cc, nc, fc)]), j.W.cell? ⟨bc, 0, none⟩ = some (.int .i64 sgc) := fun j => (j.h.at_ 1 rfl).cell 0
    have fc1 : ∀ j : In (Its w [(w.heap.size, 28, csT sg st Az mz pz (some ⟨gg, off, none⟩) kz qz Cz nz rz), (bc, 28, csT sgc stc Ac mc pc Bc kc qc Cc nc rc)] [(.i64, Az, mz, o), (.i64, (some ⟨gg, off, none⟩), kz, l), (.u64, Cz, nz, f), (.i64, Ac, mc, oc), (.i64, Bc, kc, lc), (.u64, Cc, nc, fc)]), j.W.cell? ⟨bc, 1, none⟩ = some (.int .i64 stc) := fun j => (j.h.at_ 1 rfl).cell 1
    have fc2 : ∀ j : In (Its w [(w.heap.size, 28, csT sg st Az mz pz (some ⟨gg, off, none⟩) kz qz Cz nz rz), (bc, 28, csT sgc stc Ac mc pc Bc kc qc Cc nc rc)] [(.i64, Az, mz, o), (.i64, (some ⟨gg, off, none⟩), kz, l), (.u64, Cz, nz, f), (.i64, Ac, mc, oc), (.i64, Bc, kc, lc), (.u64, Cc, nc, fc)]), j.W.cell? ⟨bc, 2, none⟩ = some (.slice Ac mc pc) := fun j => (j.h.at_ 1 rfl).cell 2
    have fc3 : ∀ j : In (Its w [(w.heap.size, 28, csT sg st Az mz pz (some ⟨gg, off, none⟩) kz qz Cz nz rz), (bc, 28, csT sgc stc Ac mc pc Bc kc qc Cc nc rc)] [(.i64, Az, mz, o), (.i64, (some ⟨gg, off, none⟩), kz, l), (.u64, Cz, nz, f), (.i64, Ac, mc, oc), (.i64, Bc, kc, lc), (.u64, Cc, nc, fc)]), j.W.cell? ⟨bc, 3, none⟩ = some (.slice Bc kc qc) := fun j => (j.h.at_ 1 rfl).cell 3
    have fc4 : ∀ j : In (Its w [(w.heap.size, 28, csT sg st Az mz pz (some ⟨gg, off, none⟩) kz qz Cz nz rz), (bc, 28, csT sgc stc Ac mc pc Bc kc qc Cc nc rc)] [(.i64, Az, mz, o), (.i64, (some ⟨gg, off, none⟩), kz, l), (.u64, Cz, nz, f), (.i64, Ac, mc, oc), (.i64, Bc, kc, lc), (.u64, Cc, nc, fc)]), j.W.cell? ⟨bc, 4, none⟩ = some (.slice Cc nc rc) := fun j => (j.h.at_ 1 rfl).cell 4
    go_cut [151] (fun s151 wx => s151 = .bool false ∧ Its w [(w.heap.size, 28, csT sg st Az mz pz (some ⟨gg, off, none⟩) kz qz Cz nz rz)] [(.i64, Az, mz, o), (.i64, (some ⟨gg, off, none⟩), kz, l), (.u64, Cz, nz, f)] wx)
    case first =>
      rcases drop_case a1 HK.out with hc1 | ⟨u, hc1, hu, hr, hs, hl0⟩
      · clear tc
        obtain rfl : erc = 1 := by rw [← Yc.out, hc1]; rfl
        refine region_class (Its w [(w.heap.size, 28, csT sg st Az mz pz (some ⟨gg, off, none⟩) kz qz Cz nz rz), (bc, 28, csT sgc stc Ac mc pc Bc kc qc Cc nc rc)] [(.i64, Az, mz, o), (.i64, (some ⟨gg, off, none⟩), kz, l), (.u64, Cz, nz, f), (.i64, Ac, mc, oc), (.i64, Bc, kc, lc), (.u64, Cc, nc, fc)]) (by kernel_rfl) (by kernel_rfl) I.drawn ?_
        repeat (go_big_quiet_step (fail))
        refine wpQuiet_nil ?_
        rintro _ ⟨j, rfl⟩
        go_wp2_with fail
        go_meet
        exact ⟨rfl, ((Its.nil j.h.b).cons (j.h.at_ 0 rfl)).tcons (j.h.tab 0 rfl rfl rfl)⟩
      · obtain ⟨L1, r0⟩ : ∃ x, Hid (lenT ⟨sg, st, o, l, f⟩ a1 = x) := ⟨_, Lib.hid rfl⟩
        have bL : 0 ≤ L1 ∧ L1 ≤ 30 := by rw [← r0.out]; exact len_bd HK.out
        obtain ⟨R1, r1⟩ : ∃ x, Hid (R + st = x) := ⟨_, Lib.hid rfl⟩
        obtain ⟨U1, r2⟩ : ∃ x, Hid (U - L1 = x) := ⟨_, Lib.hid rfl⟩
        have x1 : IntKind.i64.wrap (R + st) = R1 := by rw [r1.out]; exact IntWalk.i64_in _ (by have := r1.out; omega)
        have x2 : IntKind.i64.wrap (U - L1) = U1 := by rw [r2.out]; exact IntWalk.i64_in _ (by have := r2.out; omega)
        obtain rfl : erc = 0 := by rw [← Yc.out, hc1]; rfl
        obtain rfl : u = ⟨sgc, stc, oc, lc, fc⟩ := by have := Hc.out; rw [hc1] at this; exact this
        have HU1 := Lib.hid hu
        obtain ⟨hmlc, hklc, hnlc⟩ := (ok_full hu tc).2.2.2.2
        clear hu
        have R1e : roomT ⟨sgc, stc, oc, lc, fc⟩ = R1 := by rw [hr, HR.out, r1.out]
        have U1e : usedT ⟨sgc, stc, oc, lc, fc⟩ = U1 := by rw [hs, HU.out, r0.out, r2.out]
        have k1 := HK.out.2.2.2.2.2.2.1
        have k2 := HU1.out.2.2.2.2.2.2.1
        have Q1 := Lib.hid (fun W (hi : Its w [(w.heap.size, 28, csT sg st Az mz pz (some ⟨gg, off, none⟩) kz qz Cz nz rz), (bc, 28, csT sgc stc Ac mc pc Bc kc qc Cc nc rc)] [(.i64, Az, mz, o), (.i64, (some ⟨gg, off, none⟩), kz, l), (.u64, Cz, nz, f), (.i64, Ac, mc, oc), (.i64, Bc, kc, lc), (.u64, Cc, nc, fc)] W) => right_is sgc stc Ac mc pc Bc kc qc Cc nc rc oc lc fc true W (hi.tab 3 rfl rfl rfl) hmlc hklc hnlc mpc ((okT_iff _).2 HU1.out))
        have Q2 := Lib.hid (fun W (hi : Its w [(w.heap.size, 28, csT sg st Az mz pz (some ⟨gg, off, none⟩) kz qz Cz nz rz), (bc, 28, csT sgc stc Ac mc pc Bc kc qc Cc nc rc)] [(.i64, Az, mz, o), (.i64, (some ⟨gg, off, none⟩), kz, l), (.u64, Cz, nz, f), (.i64, Ac, mc, oc), (.i64, Bc, kc, lc), (.u64, Cc, nc, fc)] W) => room_is sgc stc Ac mc pc Bc kc qc Cc nc rc oc lc fc R1 W (hi.tab 3 rfl rfl rfl) HU1.out R1e)
        have Q3 := Lib.hid (fun W (hi : Its w [(w.heap.size, 28, csT sg st Az mz pz (some ⟨gg, off, none⟩) kz qz Cz nz rz), (bc, 28, csT sgc stc Ac mc pc Bc kc qc Cc nc rc)] [(.i64, Az, mz, o), (.i64, (some ⟨gg, off, none⟩), kz, l), (.u64, Cz, nz, f), (.i64, Ac, mc, oc), (.i64, Bc, kc, lc), (.u64, Cc, nc, fc)] W) => used_is sgc stc Ac mc pc Bc kc qc Cc nc rc oc lc fc U1 W (hi.tab 3 rfl rfl rfl) (small_ok HU1.out) U1e)
        have Q4 := Lib.hid (fun W (hi : Its w [(w.heap.size, 28, csT sg st Az mz pz (some ⟨gg, off, none⟩) kz qz Cz nz rz), (bc, 28, csT sgc stc Ac mc pc Bc kc qc Cc nc rc)] [(.i64, Az, mz, o), (.i64, (some ⟨gg, off, none⟩), kz, l), (.u64, Cz, nz, f), (.i64, Ac, mc, oc), (.i64, Bc, kc, lc), (.u64, Cc, nc, fc)] W) => len_is sg st Az mz pz (some ⟨gg, off, none⟩) kz qz Cz nz rz o l f a1 L1 W (hi.tab 0 rfl rfl rfl) hmz k1 r0.out)
        have Q5 := Lib.hid (fun W (hi : Its w [(w.heap.size, 28, csT sg st Az mz pz (some ⟨gg, off, none⟩) kz qz Cz nz rz), (bc, 28, csT sgc stc Ac mc pc Bc kc qc Cc nc rc)] [(.i64, Az, mz, o), (.i64, (some ⟨gg, off, none⟩), kz, l), (.u64, Cz, nz, f), (.i64, Ac, mc, oc), (.i64, Bc, kc, lc), (.u64, Cc, nc, fc)] W) => len_is sgc stc Ac mc pc Bc kc qc Cc nc rc oc lc fc a1 0 W (hi.tab 3 rfl rfl rfl) hmlc k2 hl0)
        clear hr hs hl0 k1 k2 tc R1e U1e
        refine region_class (Its w [(w.heap.size, 28, csT sg st Az mz pz (some ⟨gg, off, none⟩) kz qz Cz nz rz), (bc, 28, csT sgc stc Ac mc pc Bc kc qc Cc nc rc)] [(.i64, Az, mz, o), (.i64, (some ⟨gg, off, none⟩), kz, l), (.u64, Cz, nz, f), (.i64, Ac, mc, oc), (.i64, Bc, kc, lc), (.u64, Cc, nc, fc)]) (by kernel_rfl) (by kernel_rfl) I.drawn ?_
        repeat (go_big_quiet_step (first
          | (go_at_call 13; with_reducible exact class_call _ (fun hi => its_ge hi (Q1.out _ hi)))
          | (go_at_call 19; with_reducible exact class_call _ (fun hi => its_ge hi (Q2.out _ hi)))
          | (go_at_call 21; with_reducible exact class_call _ (fun hi => its_ge hi (Q3.out _ hi)))
          | (go_at_call 23; with_reducible exact class_call _ (fun hi => its_ge hi (Q4.out _ hi)))
          | (go_at_call 23; with_reducible exact class_call _ (fun hi => its_ge hi (Q5.out _ hi)))))
        refine wpQuiet_nil ?_
        rintro _ ⟨j, rfl⟩
        go_wp2_with fail
        go_meet
        exact ⟨rfl, ((Its.nil j.h.b).cons (j.h.at_ 0 rfl)).tcons (j.h.tab 0 rfl rfl rfl)⟩
    case rest =>
    obtain ⟨rfl, I4⟩ := hcut
    clear fz0 fz1 fz2 fz3 fz4 fc0 fc1 fc2 fc3 fc4 I hne tc Hc Yc mpc
    go_wp2_with fail
    obtain ⟨T1, t1⟩ : ∃ x, Hid (R + U = x) := ⟨_, Lib.hid rfl⟩
    obtain ⟨T2, t2⟩ : ∃ x, Hid (sg * st = x) := ⟨_, Lib.hid rfl⟩
    have bT : T1 ≤ T2 ∧ T2 ≤ 480 := by
      have h1 := HB.out.s
      have h2 := HB.out.m
      rw [HR.out, HU.out, t1.out] at h1
      simp only at h1 h2
      rw [t2.out] at h1 h2
      omega
    have d1 : IntKind.i64.wrap (R + U) = T1 := by rw [t1.out]; exact IntWalk.i64_in _ (by have := t1.out; omega)
    have d2 : IntKind.i64.wrap (sg * st) = T2 := by rw [t2.out]; exact IntWalk.i64_in _ (by have := t1.out; omega)
    have d3 : T1 ≤ T2 := bT.1
    have d4 : IntKind.i64.wrap (((freeT ⟨sg, st, o, l, f⟩).length : Int) + (mz : Int)) = sg := by
      have h1 := HB.out.f
      have h2 := HM.out
      simp only at h1
      rw [h2, h1]
      exact IntWalk.i64_in _ (by omega)
    refine wp_its [.is (.int .i64 (R)),
    .is (.int .i64 (U)),
    .is (.int .i64 (T1)),
    .is (.pointer (some ⟨w.heap.size, 0, none⟩)),
    .is (.int .i64 (sg)),
    .is (.pointer (some ⟨w.heap.size, 1, none⟩)),
    .is (.int .i64 (st)),
    .is (.int .i64 (T2)),
    .is (.bool true),
    .is (.bool true),
    .is (.agg #[.int .i64 (sg), .int .i64 (st), .slice Az mz pz, .slice (some ⟨gg, off, none⟩) kz qz, .slice Cz nz rz]),
    .lst (freeT ⟨sg, st, o, l, f⟩),
    .is (.int .i64 (((freeT ⟨sg, st, o, l, f⟩).length : Nat))),
    .is (.pointer (some ⟨w.heap.size, 2, none⟩)),
    .is (.slice Az mz pz),
    .is (.int .i64 ((mz : Nat))),
    .is (.int .i64 (sg)),
    .is (.pointer (some ⟨w.heap.size, 0, none⟩)),
    .is (.int .i64 (sg)),
    .is (.bool true),
    .is (.bool true),
    .is (.bool true),
    .is (.bool true),
    .is (.bool true),
    .is (.bool true)] [(w.heap.size, 28, csT sg st Az mz pz (some ⟨gg, off, none⟩) kz qz Cz nz rz)] [(.i64, Az, mz, o), (.i64, (some ⟨gg, off, none⟩), kz, l), (.u64, Cz, nz, f)] (by kernel_rfl) (by kernel_rfl) I4 ?_ ?_
    · refine ⟨?_, ?_, ?_, ?_, ?_, ?_, ?_, ?_, ?_, ?_, ?_, ?_, ?_, ?_, ?_, ?_, ?_, ?_, ?_, ?_, ?_, ?_, ?_, ?_, ?_, trivial⟩
      · intro listed A0 W hA hr K hK
        have e7 : A0.tmps[7]?.getD undef = .int .i64 (R) := slot_is ((hA.kept 7 (Free.not_dst (by kernel_rfl))).trans rfl)
        rw [if_pos (FreeG.wanted_plain rfl)]
        simp [go_sem, e7]
        exact hK _ _ (Below.refl _ _) rfl
      · intro listed A0 W hA hr K hK
        have e8 : A0.tmps[8]?.getD undef = .int .i64 (U) := slot_is ((hA.kept 8 (Free.not_dst (by kernel_rfl))).trans rfl)
        rw [if_pos (FreeG.wanted_plain rfl)]
        simp [go_sem, e8]
        exact hK _ _ (Below.refl _ _) rfl
      · intro listed A0 W hA hr K hK
        have e152 : A0.tmps[152]?.getD undef = .int .i64 (R) := slot_is (hA.val 0 _ rfl (hr ⟨0, .data⟩ (by simp) rfl))
        have e153 : A0.tmps[153]?.getD undef = .int .i64 (U) := slot_is (hA.val 1 _ rfl (hr ⟨1, .data⟩ (by simp) rfl))
        rw [if_pos (FreeG.wanted_plain rfl)]
        simp [go_sem, e152, e153, d1]
        exact hK _ _ (Below.refl _ _) rfl
      · intro listed A0 W hA hr K hK
        have e3 : A0.tmps[3]?.getD undef = .pointer (some ⟨w.heap.size, 0, none⟩) := slot_is ((hA.kept 3 (Free.not_dst (by kernel_rfl))).trans rfl)
        rw [if_pos (FreeG.wanted_plain rfl)]
        simp [go_sem, e3]
        exact hK _ _ (Below.refl _ _) rfl
      · intro listed A0 W hA hr K hK
        have e155 : A0.tmps[155]?.getD undef = .pointer (some ⟨w.heap.size, 0, none⟩) := slot_is (hA.val 3 _ rfl (hr ⟨3, .data⟩ (by simp) rfl))
        have f0 : W.cell? ⟨w.heap.size, 0, none⟩ = some (.int .i64 (sg)) := (hA.c.at_ 0 rfl).cell 0
        rw [if_pos (FreeG.wanted_plain rfl)]
        simp [go_sem, e155, f0]
        exact hK _ _ (Below.refl _ _) rfl
      · intro listed A0 W hA hr K hK
        have e3 : A0.tmps[3]?.getD undef = .pointer (some ⟨w.heap.size, 0, none⟩) := slot_is ((hA.kept 3 (Free.not_dst (by kernel_rfl))).trans rfl)
        rw [if_pos (FreeG.wanted_plain rfl)]
        simp [go_sem, e3]
        exact hK _ _ (Below.refl _ _) rfl
      · intro listed A0 W hA hr K hK
        have e157 : A0.tmps[157]?.getD undef = .pointer (some ⟨w.heap.size, 1, none⟩) := slot_is (hA.val 5 _ rfl (hr ⟨5, .data⟩ (by simp) rfl))
        have f0 : W.cell? ⟨w.heap.size, 1, none⟩ = some (.int .i64 (st)) := (hA.c.at_ 0 rfl).cell 1
        rw [if_pos (FreeG.wanted_plain rfl)]
        simp [go_sem, e157, f0]
        exact hK _ _ (Below.refl _ _) rfl
      · intro listed A0 W hA hr K hK
        have e156 : A0.tmps[156]?.getD undef = .int .i64 (sg) := slot_is (hA.val 4 _ rfl (hr ⟨4, .data⟩ (by simp) rfl))
        have e158 : A0.tmps[158]?.getD undef = .int .i64 (st) := slot_is (hA.val 6 _ rfl (hr ⟨6, .data⟩ (by simp) rfl))
        rw [if_pos (FreeG.wanted_plain rfl)]
        simp [go_sem, e156, e158, d2]
        exact hK _ _ (Below.refl _ _) rfl
      · intro listed A0 W hA hr K hK
        have e154 : A0.tmps[154]?.getD undef = .int .i64 (T1) := slot_is (hA.val 2 _ rfl (hr ⟨2, .data⟩ (by simp) rfl))
        have e159 : A0.tmps[159]?.getD undef = .int .i64 (T2) := slot_is (hA.val 7 _ rfl (hr ⟨7, .data⟩ (by simp) rfl))
        rw [if_pos (FreeG.wanted_plain rfl)]
        simp [go_sem, e154, e159, d3]
        exact hK _ _ (Below.refl _ _) rfl
      · intro listed A0 W hA hr K hK
        have e160 : A0.tmps[160]?.getD undef = .bool true := slot_is (hA.val 8 _ rfl (hr ⟨8, .data⟩ (by simp) rfl))
        rw [if_pos (FreeG.wanted_plain rfl)]
        simp [go_sem, e160]
        exact hK _ _ (Below.refl _ _) rfl
      · intro listed A0 W hA hr K hK
        have eg : A0.tmps[161]?.getD undef = .bool true := slot_is (hA.val 9 _ rfl (hr ⟨9, .guard⟩ (by simp) rfl))
        have e3 : A0.tmps[3]?.getD undef = .pointer (some ⟨w.heap.size, 0, none⟩) := slot_is ((hA.kept 3 (Free.not_dst (by kernel_rfl))).trans rfl)
        have f0 : W.cell? ⟨w.heap.size, 0, none⟩ = some (.int .i64 (sg)) := (hA.c.at_ 0 rfl).cell 0
        have f1 : W.cell? ⟨w.heap.size, 1, none⟩ = some (.int .i64 (st)) := (hA.c.at_ 0 rfl).cell 1
        have f2 : W.cell? ⟨w.heap.size, 2, none⟩ = some (.slice Az mz pz) := (hA.c.at_ 0 rfl).cell 2
        have f3 : W.cell? ⟨w.heap.size, 3, none⟩ = some (.slice (some ⟨gg, off, none⟩) kz qz) := (hA.c.at_ 0 rfl).cell 3
        have f4 : W.cell? ⟨w.heap.size, 4, none⟩ = some (.slice Cz nz rz) := (hA.c.at_ 0 rfl).cell 4
        rw [if_pos (FreeG.wanted_yes rfl rfl rfl eg)]
        simp [go_sem, e3, f0, f1, f2, f3, f4]
        exact hK _ _ (Below.refl _ _) rfl
      · intro listed A0 W hA hr K hK
        have eg : A0.tmps[161]?.getD undef = .bool true := slot_is (hA.val 9 _ rfl (hr ⟨9, .guard⟩ (by simp) rfl))
        have e162 : A0.tmps[162]?.getD undef = .agg #[.int .i64 (sg), .int .i64 (st), .slice Az mz pz, .slice (some ⟨gg, off, none⟩) kz qz, .slice Cz nz rz] := slot_is (hA.val 10 _ rfl (hr ⟨10, .data⟩ (by simp) rfl))
        rw [if_pos (FreeG.wanted_yes rfl rfl rfl eg)]
        simp [go_sem, e162]
        refine (tfree_any sg st Az mz pz (some ⟨gg, off, none⟩) kz qz Cz nz rz o l f _ (hA.c.tab 0 rfl rfl rfl) hmz ⟨by omega, sg0.2⟩).mono ?_
        rintro e' w' ⟨A1, m1, p1, rfl, h1, hb⟩
        exact hK _ _ hb ⟨A1, m1, p1, rfl, h1⟩
      · intro listed A0 W hA hr K hK
        have eg : A0.tmps[161]?.getD undef = .bool true := slot_is (hA.val 9 _ rfl (hr ⟨9, .guard⟩ (by simp) rfl))
        have e163 : ∃ A m p, A0.tmps[163]?.getD undef = .slice A m p ∧ Sl .i64 W A m (freeT ⟨sg, st, o, l, f⟩) := slot_lst (hA.val 11 _ rfl (hr ⟨11, .data⟩ (by simp) rfl))
        rw [if_pos (FreeG.wanted_yes rfl rfl rfl eg)]
        obtain ⟨A1, m1, p1, h1, h2⟩ := e163
        simp [go_sem, h1]
        exact hK _ _ (Below.refl _ _) (show Value.int .i64 _ = .int .i64 _ from by rw [h2.len])
      · intro listed A0 W hA hr K hK
        have eg : A0.tmps[161]?.getD undef = .bool true := slot_is (hA.val 9 _ rfl (hr ⟨9, .guard⟩ (by simp) rfl))
        have e3 : A0.tmps[3]?.getD undef = .pointer (some ⟨w.heap.size, 0, none⟩) := slot_is ((hA.kept 3 (Free.not_dst (by kernel_rfl))).trans rfl)
        rw [if_pos (FreeG.wanted_yes rfl rfl rfl eg)]
        simp [go_sem, e3]
        exact hK _ _ (Below.refl _ _) rfl
      · intro listed A0 W hA hr K hK
        have eg : A0.tmps[161]?.getD undef = .bool true := slot_is (hA.val 9 _ rfl (hr ⟨9, .guard⟩ (by simp) rfl))
        have e165 : A0.tmps[165]?.getD undef = .pointer (some ⟨w.heap.size, 2, none⟩) := slot_is (hA.val 13 _ rfl (hr ⟨13, .data⟩ (by simp) rfl))
        have f0 : W.cell? ⟨w.heap.size, 2, none⟩ = some (.slice Az mz pz) := (hA.c.at_ 0 rfl).cell 2
        rw [if_pos (FreeG.wanted_yes rfl rfl rfl eg)]
        simp [go_sem, e165, f0]
        exact hK _ _ (Below.refl _ _) rfl
      · intro listed A0 W hA hr K hK
        have eg : A0.tmps[161]?.getD undef = .bool true := slot_is (hA.val 9 _ rfl (hr ⟨9, .guard⟩ (by simp) rfl))
        have e166 : A0.tmps[166]?.getD undef = .slice Az mz pz := slot_is (hA.val 14 _ rfl (hr ⟨14, .data⟩ (by simp) rfl))
        rw [if_pos (FreeG.wanted_yes rfl rfl rfl eg)]
        simp [go_sem, e166]
        exact hK _ _ (Below.refl _ _) rfl
      · intro listed A0 W hA hr K hK
        have eg : A0.tmps[161]?.getD undef = .bool true := slot_is (hA.val 9 _ rfl (hr ⟨9, .guard⟩ (by simp) rfl))
        have e164 : A0.tmps[164]?.getD undef = .int .i64 (((freeT ⟨sg, st, o, l, f⟩).length : Nat)) := slot_is (hA.val 12 _ rfl (hr ⟨12, .data⟩ (by simp) rfl))
        have e167 : A0.tmps[167]?.getD undef = .int .i64 ((mz : Nat)) := slot_is (hA.val 15 _ rfl (hr ⟨15, .data⟩ (by simp) rfl))
        rw [if_pos (FreeG.wanted_yes rfl rfl rfl eg)]
        simp [go_sem, e164, e167, d4]
        exact hK _ _ (Below.refl _ _) rfl
      · intro listed A0 W hA hr K hK
        have eg : A0.tmps[161]?.getD undef = .bool true := slot_is (hA.val 9 _ rfl (hr ⟨9, .guard⟩ (by simp) rfl))
        have e3 : A0.tmps[3]?.getD undef = .pointer (some ⟨w.heap.size, 0, none⟩) := slot_is ((hA.kept 3 (Free.not_dst (by kernel_rfl))).trans rfl)
        rw [if_pos (FreeG.wanted_yes rfl rfl rfl eg)]
        simp [go_sem, e3]
        exact hK _ _ (Below.refl _ _) rfl
      · intro listed A0 W hA hr K hK
        have eg : A0.tmps[161]?.getD undef = .bool true := slot_is (hA.val 9 _ rfl (hr ⟨9, .guard⟩ (by simp) rfl))
        have e169 : A0.tmps[169]?.getD undef = .pointer (some ⟨w.heap.size, 0, none⟩) := slot_is (hA.val 17 _ rfl (hr ⟨17, .data⟩ (by simp) rfl))
        have f0 : W.cell? ⟨w.heap.size, 0, none⟩ = some (.int .i64 (sg)) := (hA.c.at_ 0 rfl).cell 0
        rw [if_pos (FreeG.wanted_yes rfl rfl rfl eg)]
        simp [go_sem, e169, f0]
        exact hK _ _ (Below.refl _ _) rfl
      · intro listed A0 W hA hr K hK
        have eg : A0.tmps[161]?.getD undef = .bool true := slot_is (hA.val 9 _ rfl (hr ⟨9, .guard⟩ (by simp) rfl))
        have e168 : A0.tmps[168]?.getD undef = .int .i64 (sg) := slot_is (hA.val 16 _ rfl (hr ⟨16, .data⟩ (by simp) rfl))
        have e170 : A0.tmps[170]?.getD undef = .int .i64 (sg) := slot_is (hA.val 18 _ rfl (hr ⟨18, .data⟩ (by simp) rfl))
        rw [if_pos (FreeG.wanted_yes rfl rfl rfl eg)]
        simp [go_sem, e168, e170]
        exact hK _ _ (Below.refl _ _) rfl
      · intro listed A0 W hA hr K hK
        have e161 : A0.tmps[161]?.getD undef = .bool true := slot_is (hA.val 9 _ rfl (hr ⟨9, .data⟩ (by simp) rfl))
        have e171 : A0.tmps[171]?.getD undef = .bool true := slot_is (hA.val 19 _ rfl (hr ⟨19, .data⟩ (by simp) rfl))
        rw [if_pos (FreeG.wanted_plain rfl)]
        simp [go_sem, e161, e171]
        exact hK _ _ (Below.refl _ _) rfl
      · intro listed A0 W hA hr K hK
        have e172 : A0.tmps[172]?.getD undef = .bool true := slot_is (hA.val 20 _ rfl (hr ⟨20, .data⟩ (by simp) rfl))
        rw [if_pos (FreeG.wanted_plain rfl)]
        simp [go_sem, e172]
        exact hK _ _ (Below.refl _ _) rfl
      · intro listed A0 W hA hr K hK
        have eg : A0.tmps[173]?.getD undef = .bool true := slot_is (hA.val 21 _ rfl (hr ⟨21, .guard⟩ (by simp) rfl))
        rw [if_pos (FreeG.wanted_yes rfl rfl rfl eg)]
        simp [go_sem]
        refine (fixed_any _).mono ?_
        rintro e' w' ⟨rfl, hb⟩
        exact hK _ _ hb rfl
      · intro listed A0 W hA hr K hK
        have e173 : A0.tmps[173]?.getD undef = .bool true := slot_is (hA.val 21 _ rfl (hr ⟨21, .data⟩ (by simp) rfl))
        have e174 : A0.tmps[174]?.getD undef = .bool true := slot_is (hA.val 22 _ rfl (hr ⟨22, .data⟩ (by simp) rfl))
        rw [if_pos (FreeG.wanted_plain rfl)]
        simp [go_sem, e173, e174]
        exact hK _ _ (Below.refl _ _) rfl
      · intro listed A0 W hA hr K hK
        have e175 : A0.tmps[175]?.getD undef = .bool true := slot_is (hA.val 23 _ rfl (hr ⟨23, .data⟩ (by simp) rfl))
        rw [if_pos (FreeG.wanted_plain rfl)]
        simp [go_sem, e175]
        exact hK _ _ (Below.refl _ _) rfl
    · intro A0 W hA
      have s6 : A0.tmps.getD 6 undef = .bool true := hA.val 24 _ rfl rfl
      have hsz := hA.slots
      have hde := hA.defers
      have hb := hA.c.b
      clear hA
      obtain ⟨tm, de⟩ := A0
      simp only at s6 hsz hde
      obtain ⟨y, hy, rfl⟩ := arrF176 hsz
      have t6 : y 6 = .bool true := (hy 6).symm.trans s6
      subst hde
      clear s6 hsz hy
      go_wp2_with fail
      go_ret
      exact ⟨by rw [t6]; rfl, hb⟩

set_option maxRecDepth 100000 in
theorem lifted (os : Os) (started : os.Started) (H : Type) (enc : TypeId × Value → H) :
    ReturnsInHanded {} Try.checked os 5 .any (Rows.tableRoomSpec.pre6 enc Try.prog Try.f5 Rows.tableRoomRow.domain false) (Rows.tableRoomSpec.post enc Try.prog Try.f5 false true false false) := by
  refine returnsInHanded_of_change (C := Try.checked) own started (by kernel_rfl) Try.func5
    (ChangeSpec.witness6 (enc := enc) (C := Try.checked) false ⟨#[], #[.agg #[.int .i64 0, .int .i64 0, .slice none 0 0, .slice none 0 0, .slice none 0 0], .int .i64 0, .int .u64 0], []⟩ 8 (by kernel_rfl) (by kernel_rfl) (by kernel_rfl) (by kernel_rfl)) ?_
  intro W base args ds gs before hval0 hW hcnd _
  have hval : ∀ (j : Nat) t v, Try.f5.params[j]? = some t → args[j]? = some v → Value.okWide Try.prog W .any base t v := hval0
  have hW' := hW
  obtain ⟨p, q, hA0, hV, rfl, hfz, hnd⟩ := hW
  have hA : DataW.TrodAll enc Try.prog W 0 (fun _ => true) true Try.f5.params.toList args.toList ds p := hA0
  rw [Try.params5] at hA hval
  obtain ⟨v0, vs0, d0, ds0, p0, q0, hargs, rfl, rfl, h0, r0⟩ := trodAll_cons hA
  obtain ⟨v1, vs1, d1, ds1, p1, q1, rfl, rfl, rfl, h1, r1⟩ := trodAll_cons r0
  obtain ⟨v2, vs2, d2, ds2, p2, q2, rfl, rfl, rfl, h2, r2⟩ := trodAll_cons r1
  obtain ⟨rfl, rfl, rfl⟩ := trodAll_nil r2
  obtain rfl : args = #[v0, v1, v2] := by cases args; simp_all
  obtain ⟨rfl, rfl⟩ := trodVars_none hV
  obtain ⟨gs0, ts0, A0, m0, pa0, B0, k0, pb0, C0, n0, pc0, o0, l0, f0, rfl, ht0, hm0, hp0⟩ := open_tab (hval 0 28 v0 rfl rfl) h0
  obtain ⟨a1, rfl, rfl, rfl, w1⟩ := open_int Try.underlying3 (hval 1 3 v1 rfl rfl) h1
  obtain ⟨a2, rfl, rfl, rfl, w2⟩ := open_int Try.underlying23 (hval 2 23 v2 rfl rfl) h2
  clear hA0 hval0
  try simp only [List.append_nil] at hW'
  try simp only [List.nil_append] at hW'
  have hlt := fun x hx => hW'.lt x hx
  refine (walk gs0 ts0 A0 m0 pa0 B0 k0 pb0 C0 n0 pc0 o0 l0 f0 a1 a2 W ht0 hm0 hp0 w1 w2).mono fun e W' ⟨he, hg⟩ => ?_
  subst he
  refine ⟨_, rfl, post_mem hW' (fun _ _ _ => (trodAll_cons_mk (shut_bool Try.underlying4 _) trodAll_mk0)) (fun sp hsp => ?_) (fun _ => rfl) hg (ok_one (by kernel_rfl) rfl (okWide_bool_mk Try.underlying4 _))⟩
  have hall := (trodAll_cons_mk (arg_same (sp := sp) laid (by kernel_rfl) (of_decide_eq_true (by kernel_rfl)) h0 hg (by intro x hx; simp_all) hlt hsp) (trodAll_cons_mk (arg_same (sp := sp) laid (by kernel_rfl) (of_decide_eq_true (by kernel_rfl)) h1 hg (by intro x hx; simp_all) hlt hsp) (trodAll_cons_mk (arg_same (sp := sp) laid (by kernel_rfl) (of_decide_eq_true (by kernel_rfl)) h2 hg (by intro x hx; simp_all) hlt hsp) trodAll_mk0)))
  try simp only [List.append_nil] at hall
  try simp only [List.nil_append] at hall
  exact hall

theorem over : Rows.tableRoomRow.holds Try.pinned (OpenSpec.ofChange Rows.tableRoomSpec) :=
  OpenClaim.holds_of_wide 5 Try.f5 rfl rfl rfl rfl rfl rfl rfl ⟨rfl, rfl, rfl, rfl, rfl⟩ rfl rfl rfl rfl rfl (by kernel_rfl) Try.func5 (by kernel_rfl)
    (of_decide_eq_true (by kernel_rfl)) (by unfold Func.isWrapper; first | (rw [if_pos (by decide +kernel)]; kernel_rfl) | (rw [if_neg (by decide +kernel)]; exact ⟨rfl, rfl⟩))
    (fun os started H enc _ => lifted os started H enc)

theorem proved : Rows.TableRoomSaid := over
#print axioms proved
end Go.Proofs.Ytpgbbbgblgkokaa.tableRoom
