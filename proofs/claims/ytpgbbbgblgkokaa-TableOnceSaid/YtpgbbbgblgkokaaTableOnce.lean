/- For every table, every call and every record's place the statement TableOnce about table and the document's own calls returns true, and changes nothing. Conditions: none. -/
import Derived.Test.YtpgbbbgblgkokaaTbX
import Derived.Test.YtpgbbbgblgkokaaTbP
import Derived.Test.YtpgbbbgblgkokaaTbZ
import Derived.Test.YtpgbbbgblgkokaaTbOp
import Derived.Test.YtpgbbbgblgkokaaTbW
import Derived.Test.YtpgbbbgblgkokaaTbV
import Derived.Test.YtpgbbbgblgkokaaTbO6
import Derived.Test.YtpgbbbgblgkokaaMem
import Derived.Test.YtpgbbbgblgkokaaClass
import Derived.Deep.QuietTactic
import Derived.BigQuiet
import Derived.Deep.DeepCutAuto
import Derived.Deep.LoopGhost
import Derived.Deep.RegionWith
import Derived.StillTailTactics
import Derived.WalkSmall
import Derived.IntWalk
import Derived.ProofKit
import Derived.OpenShut
import Derived.ShutString
import Derived.SizedLaws
namespace Go.Proofs.Ytpgbbbgblgkokaa.tableOnce
open Go.ChangeShapes Go.WideShapes Go.ChangeAt Go.RowKit Go.Lib Go.MapKept
open Go.ChangeMaps (open_string shut_string)
set_option linter.unusedVariables false

theorem own : ownKnob Try.prog.godebug = none := by kernel_rfl
theorem laid : laidOutB Try.prog = true := by kernel_rfl

theorem arrF85 {cs : Array Value} (h : cs.size = 85) : ∃ y : Nat → Value, (∀ i, cs.getD i undef = y i) ∧ cs = #[y 0, y 1, y 2, y 3, y 4, y 5, y 6, y 7, y 8, y 9, y 10, y 11, y 12, y 13, y 14, y 15, y 16, y 17, y 18, y 19, y 20, y 21, y 22, y 23, y 24, y 25, y 26, y 27, y 28, y 29, y 30, y 31, y 32, y 33, y 34, y 35, y 36, y 37, y 38, y 39, y 40, y 41, y 42, y 43, y 44, y 45, y 46, y 47, y 48, y 49, y 50, y 51, y 52, y 53, y 54, y 55, y 56, y 57, y 58, y 59, y 60, y 61, y 62, y 63, y 64, y 65, y 66, y 67, y 68, y 69, y 70, y 71, y 72, y 73, y 74, y 75, y 76, y 77, y 78, y 79, y 80, y 81, y 82, y 83, y 84] := by
  refine ⟨fun i => cs.getD i undef, fun _ => rfl, ?_⟩
  have e : cs = ((List.range 85).map fun i => cs.getD i undef).toArray := by
    apply Array.ext
    · simp [h]
    · intro i h1 h2
      simp [h1]
  exact e.trans rfl
theorem small_ok {t : Tab} (h : okP t) : Small t.l := ⟨by have := ok_bd h; omega, fun x hx => by have h1 := h.2.2.2.2.2.1 x hx; have h2 := h.2.1; omega⟩
theorem slot_q {xs : Array Value} {n : Nat} {p : Value → Prop} (h : p (xs.getD n undef)) : p (xs[n]?.getD undef) := by simpa using h
set_option maxRecDepth 100000 in
set_option maxHeartbeats 64000000 in
theorem walk (sg st : Int) (Az : Option Addr) (m0 pz : Nat) (Bz : Option Addr) (k0 qz : Nat) (Cz : Option Addr) (n0 rz : Nat) (o0 l0 f0 : List Int) (K G F N E J : Int) (w : World) (ht0 : TIn w Az m0 Bz k0 Cz n0 o0 l0 f0) (hm0 : m0 ≤ maxLen ∧ k0 ≤ maxLen ∧ n0 ≤ maxLen) (hp0 : m0 ≤ pz ∧ k0 ≤ qz ∧ n0 ≤ rz) (_ : True) (_ : True) :
    Calls Try.prog 4 #[.agg #[.int .i64 sg, .int .i64 st, .slice Az m0 pz, .slice Bz k0 qz, .slice Cz n0 rz], .agg #[.int .i64 K, .int .i64 G, .int .u64 F], .agg #[.int .i64 N, .int .i64 E, .int .i64 J]] w fun e w' => e = .returned (.bool true) ∧ Below w.heap.size w w' := by
  have BB : Below w.heap.size w (((w.alloc (.cells #[.int .i64 sg, .int .i64 st, .slice Az m0 pz, .slice Bz k0 qz, .slice Cz n0 rz] 28)).alloc (.cells #[.int .i64 K, .int .i64 G, .int .u64 F] 42)).alloc (.cells #[.int .i64 N, .int .i64 E, .int .i64 J] 55)) := Ge.trans (Ge.trans (below1 _ _) (below1 _ _)) (below1 _ _)
  have Kz : Blk (((w.alloc (.cells #[.int .i64 sg, .int .i64 st, .slice Az m0 pz, .slice Bz k0 qz, .slice Cz n0 rz] 28)).alloc (.cells #[.int .i64 K, .int .i64 G, .int .u64 F] 42)).alloc (.cells #[.int .i64 N, .int .i64 E, .int .i64 J] 55)) w.heap.size 28 (csT sg st Az m0 pz Bz k0 qz Cz n0 rz) := ((Blk.new w _ _).later (below1 _ _)).later (below1 _ _)
  have Kx : Blk (((w.alloc (.cells #[.int .i64 sg, .int .i64 st, .slice Az m0 pz, .slice Bz k0 qz, .slice Cz n0 rz] 28)).alloc (.cells #[.int .i64 K, .int .i64 G, .int .u64 F] 42)).alloc (.cells #[.int .i64 N, .int .i64 E, .int .i64 J] 55)) (w.heap.size + 1) 42 #[.int .i64 K, .int .i64 G, .int .u64 F] := (Blk.at_ _ _ _ (by simp)).later (below1 _ _)
  have Ky : Blk (((w.alloc (.cells #[.int .i64 sg, .int .i64 st, .slice Az m0 pz, .slice Bz k0 qz, .slice Cz n0 rz] 28)).alloc (.cells #[.int .i64 K, .int .i64 G, .int .u64 F] 42)).alloc (.cells #[.int .i64 N, .int .i64 E, .int .i64 J] 55)) (w.heap.size + 1 + 1) 55 #[.int .i64 N, .int .i64 E, .int .i64 J] := Blk.at_ _ _ _ (by simp)
  have CT := Lib.hid (fun w' => lawcut_any sg st Az m0 pz Bz k0 qz Cz n0 rz w' hm0.1 hm0.2.1 hm0.2.2 hp0.1 hp0.2.1 hp0.2.2)
  have tz0 := ht0.cut
  have hmz : cut20 m0 ≤ maxLen := Nat.le_trans (cut20_self m0) hm0.1
  have hkz : cut20 k0 ≤ maxLen := Nat.le_trans (cut20_self k0) hm0.2.1
  have hnz : cut20 n0 ≤ maxLen := Nat.le_trans (cut20_self n0) hm0.2.2
  have mpz : cut20 m0 ≤ pz := Nat.le_trans (cut20_self m0) hp0.1
  have hv := Try.zeroValue28
  have hv2 := Try.zeroValue32
  clear ht0 hm0 hp0
  generalize cut20 m0 = mz at *
  generalize cut20 k0 = kz at *
  generalize cut20 n0 = nz at *
  generalize o0.take 20 = o at *
  generalize l0.take 20 = l at *
  generalize f0.take 20 = f at *
  obtain ⟨wa, EW⟩ : ∃ wa, Hid ((((w.alloc (.cells #[.int .i64 sg, .int .i64 st, .slice Az m0 pz, .slice Bz k0 qz, .slice Cz n0 rz] 28)).alloc (.cells #[.int .i64 K, .int .i64 G, .int .u64 F] 42)).alloc (.cells #[.int .i64 N, .int .i64 E, .int .i64 J] 55)) = wa) := ⟨_, rfl⟩
  rw [EW.out] at BB Kz Kx Ky
  go_enter Try.func4, Try.ntmps4
  go_upto_region 1 with fail
  rw [EW.out]
  clear EW
  go_wp2_with (with_reducible refine load_t rfl (.tmp 3) rfl w.heap.size rfl Kz ?_)
  refine (CT.out _).mono ?_
  rintro e' w1 ⟨rfl, hb⟩
  replace Kz := Kz.later hb
  replace Kx := Kx.later hb
  replace Ky := Ky.later hb
  replace BB := Ge.trans BB hb
  clear hb CT
  go_wp2_with (with_reducible refine store_t rfl (.tmp 3) (.tmp 11) rfl w.heap.size rfl rfl Kz ?_)
  replace BB := below_row BB (Nat.le_refl _) (csT sg st Az mz pz Bz kz qz Cz nz rz)
  replace Kz := Kz.row (csT sg st Az mz pz Bz kz qz Cz nz rz)
  replace Kx := Kx.far (show w.heap.size ≠ w.heap.size + 1 by omega) (csT sg st Az mz pz Bz kz qz Cz nz rz)
  replace Ky := Ky.far (show w.heap.size ≠ w.heap.size + 1 + 1 by omega) (csT sg st Az mz pz Bz kz qz Cz nz rz)
  have tz := tz0.later BB
  generalize w1.setRow w.heap.size (csT sg st Az mz pz Bz kz qz Cz nz rz) = wb at *
  obtain ⟨b, Hb⟩ : ∃ b, okT ⟨sg, st, o, l, f⟩ = b := ⟨_, rfl⟩
  obtain ⟨X, HX⟩ : ∃ X, Hid (sectorT N E J = X) := ⟨_, Lib.hid rfl⟩
  have u1 : (b != b) = false := by cases b <;> rfl
  have u2 : (X != X) = false := by simp
  have I : Its w [(w.heap.size, 28, csT sg st Az mz pz Bz kz qz Cz nz rz), (w.heap.size + 1, 42, #[.int .i64 K, .int .i64 G, .int .u64 F]), (w.heap.size + 1 + 1, 55, #[.int .i64 N, .int .i64 E, .int .i64 J])] [(.i64, Az, mz, o), (.i64, Bz, kz, l), (.u64, Cz, nz, f)] wb := (((Its.nil BB).cons Ky).cons Kx).cons Kz |>.tcons tz
  have hne : Nonempty (In (Its w [(w.heap.size, 28, csT sg st Az mz pz Bz kz qz Cz nz rz), (w.heap.size + 1, 42, #[.int .i64 K, .int .i64 G, .int .u64 F]), (w.heap.size + 1 + 1, 55, #[.int .i64 N, .int .i64 E, .int .i64 J])] [(.i64, Az, mz, o), (.i64, Bz, kz, l), (.u64, Cz, nz, f)])) := ⟨⟨_, I⟩⟩
  have fz0 : ∀ j : In (Its w [(w.heap.size, 28, csT sg st Az mz pz Bz kz qz Cz nz rz), (w.heap.size + 1, 42, #[.int .i64 K, .int .i64 G, .int .u64 F]), (w.heap.size + 1 + 1, 55, #[.int .i64 N, .int .i64 E, .int .i64 J])] [(.i64, Az, mz, o), (.i64, Bz, kz, l), (.u64, Cz, nz, f)]), j.W.cell? ⟨w.heap.size, 0, none⟩ = some (.int .i64 sg) := fun j => (j.h.at_ 0 rfl).cell 0
  have fz1 : ∀ j : In (Its w [(w.heap.size, 28, csT sg st Az mz pz Bz kz qz Cz nz rz), (w.heap.size + 1, 42, #[.int .i64 K, .int .i64 G, .int .u64 F]), (w.heap.size + 1 + 1, 55, #[.int .i64 N, .int .i64 E, .int .i64 J])] [(.i64, Az, mz, o), (.i64, Bz, kz, l), (.u64, Cz, nz, f)]), j.W.cell? ⟨w.heap.size, 1, none⟩ = some (.int .i64 st) := fun j => (j.h.at_ 0 rfl).cell 1
  have fz2 : ∀ j : In (Its w [(w.heap.size, 28, csT sg st Az mz pz Bz kz qz Cz nz rz), (w.heap.size + 1, 42, #[.int .i64 K, .int .i64 G, .int .u64 F]), (w.heap.size + 1 + 1, 55, #[.int .i64 N, .int .i64 E, .int .i64 J])] [(.i64, Az, mz, o), (.i64, Bz, kz, l), (.u64, Cz, nz, f)]), j.W.cell? ⟨w.heap.size, 2, none⟩ = some (.slice Az mz pz) := fun j => (j.h.at_ 0 rfl).cell 2
  have fz3 : ∀ j : In (Its w [(w.heap.size, 28, csT sg st Az mz pz Bz kz qz Cz nz rz), (w.heap.size + 1, 42, #[.int .i64 K, .int .i64 G, .int .u64 F]), (w.heap.size + 1 + 1, 55, #[.int .i64 N, .int .i64 E, .int .i64 J])] [(.i64, Az, mz, o), (.i64, Bz, kz, l), (.u64, Cz, nz, f)]), j.W.cell? ⟨w.heap.size, 3, none⟩ = some (.slice Bz kz qz) := fun j => (j.h.at_ 0 rfl).cell 3
  have fz4 : ∀ j : In (Its w [(w.heap.size, 28, csT sg st Az mz pz Bz kz qz Cz nz rz), (w.heap.size + 1, 42, #[.int .i64 K, .int .i64 G, .int .u64 F]), (w.heap.size + 1 + 1, 55, #[.int .i64 N, .int .i64 E, .int .i64 J])] [(.i64, Az, mz, o), (.i64, Bz, kz, l), (.u64, Cz, nz, f)]), j.W.cell? ⟨w.heap.size, 4, none⟩ = some (.slice Cz nz rz) := fun j => (j.h.at_ 0 rfl).cell 4
  have fx0 : ∀ j : In (Its w [(w.heap.size, 28, csT sg st Az mz pz Bz kz qz Cz nz rz), (w.heap.size + 1, 42, #[.int .i64 K, .int .i64 G, .int .u64 F]), (w.heap.size + 1 + 1, 55, #[.int .i64 N, .int .i64 E, .int .i64 J])] [(.i64, Az, mz, o), (.i64, Bz, kz, l), (.u64, Cz, nz, f)]), j.W.cell? ⟨w.heap.size + 1, 0, none⟩ = some (.int .i64 K) := fun j => (j.h.at_ 1 rfl).cell 0
  have fx1 : ∀ j : In (Its w [(w.heap.size, 28, csT sg st Az mz pz Bz kz qz Cz nz rz), (w.heap.size + 1, 42, #[.int .i64 K, .int .i64 G, .int .u64 F]), (w.heap.size + 1 + 1, 55, #[.int .i64 N, .int .i64 E, .int .i64 J])] [(.i64, Az, mz, o), (.i64, Bz, kz, l), (.u64, Cz, nz, f)]), j.W.cell? ⟨w.heap.size + 1, 1, none⟩ = some (.int .i64 G) := fun j => (j.h.at_ 1 rfl).cell 1
  have fx2 : ∀ j : In (Its w [(w.heap.size, 28, csT sg st Az mz pz Bz kz qz Cz nz rz), (w.heap.size + 1, 42, #[.int .i64 K, .int .i64 G, .int .u64 F]), (w.heap.size + 1 + 1, 55, #[.int .i64 N, .int .i64 E, .int .i64 J])] [(.i64, Az, mz, o), (.i64, Bz, kz, l), (.u64, Cz, nz, f)]), j.W.cell? ⟨w.heap.size + 1, 2, none⟩ = some (.int .u64 F) := fun j => (j.h.at_ 1 rfl).cell 2
  have fy0 : ∀ j : In (Its w [(w.heap.size, 28, csT sg st Az mz pz Bz kz qz Cz nz rz), (w.heap.size + 1, 42, #[.int .i64 K, .int .i64 G, .int .u64 F]), (w.heap.size + 1 + 1, 55, #[.int .i64 N, .int .i64 E, .int .i64 J])] [(.i64, Az, mz, o), (.i64, Bz, kz, l), (.u64, Cz, nz, f)]), j.W.cell? ⟨w.heap.size + 1 + 1, 0, none⟩ = some (.int .i64 N) := fun j => (j.h.at_ 2 rfl).cell 0
  have fy1 : ∀ j : In (Its w [(w.heap.size, 28, csT sg st Az mz pz Bz kz qz Cz nz rz), (w.heap.size + 1, 42, #[.int .i64 K, .int .i64 G, .int .u64 F]), (w.heap.size + 1 + 1, 55, #[.int .i64 N, .int .i64 E, .int .i64 J])] [(.i64, Az, mz, o), (.i64, Bz, kz, l), (.u64, Cz, nz, f)]), j.W.cell? ⟨w.heap.size + 1 + 1, 1, none⟩ = some (.int .i64 E) := fun j => (j.h.at_ 2 rfl).cell 1
  have fy2 : ∀ j : In (Its w [(w.heap.size, 28, csT sg st Az mz pz Bz kz qz Cz nz rz), (w.heap.size + 1, 42, #[.int .i64 K, .int .i64 G, .int .u64 F]), (w.heap.size + 1 + 1, 55, #[.int .i64 N, .int .i64 E, .int .i64 J])] [(.i64, Az, mz, o), (.i64, Bz, kz, l), (.u64, Cz, nz, f)]), j.W.cell? ⟨w.heap.size + 1 + 1, 2, none⟩ = some (.int .i64 J) := fun j => (j.h.at_ 2 rfl).cell 2
  have Q1 := Lib.hid (fun W (hi : Its w [(w.heap.size, 28, csT sg st Az mz pz Bz kz qz Cz nz rz), (w.heap.size + 1, 42, #[.int .i64 K, .int .i64 G, .int .u64 F]), (w.heap.size + 1 + 1, 55, #[.int .i64 N, .int .i64 E, .int .i64 J])] [(.i64, Az, mz, o), (.i64, Bz, kz, l), (.u64, Cz, nz, f)] W) => right_is sg st Az mz pz Bz kz qz Cz nz rz o l f b W (hi.tab 0 rfl rfl rfl) hmz hkz hnz mpz Hb)
  have Q2 := Lib.hid (fun W (hi : Its w [(w.heap.size, 28, csT sg st Az mz pz Bz kz qz Cz nz rz), (w.heap.size + 1, 42, #[.int .i64 K, .int .i64 G, .int .u64 F]), (w.heap.size + 1 + 1, 55, #[.int .i64 N, .int .i64 E, .int .i64 J])] [(.i64, Az, mz, o), (.i64, Bz, kz, l), (.u64, Cz, nz, f)] W) => rright_is sg st Az mz pz Bz kz qz Cz nz rz o l f b W (hi.tab 0 rfl rfl rfl) hmz hkz hnz Hb)
  have Q3 : Hid (∀ W, Calls Try.prog 27 #[.int .i64 N, .agg #[.int .i64 E, .int .i64 J]] W fun e w' => e = .returned (.int .i64 X) ∧ Below W.heap.size W w') := Lib.hid (fun W => by rw [← HX.out]; exact tsector_any N E J W)
  have Q4 : Hid (∀ W, Calls Try.prog 28 #[.int .i64 N, .agg #[.int .i64 E, .int .i64 J]] W fun e w' => e = .returned (.int .i64 X) ∧ Below W.heap.size W w') := Lib.hid (fun W => by rw [← HX.out]; exact rsector_any N E J W)
  dsimp only [Act.put]
  refine region_class (Its w [(w.heap.size, 28, csT sg st Az mz pz Bz kz qz Cz nz rz), (w.heap.size + 1, 42, #[.int .i64 K, .int .i64 G, .int .u64 F]), (w.heap.size + 1 + 1, 55, #[.int .i64 N, .int .i64 E, .int .i64 J])] [(.i64, Az, mz, o), (.i64, Bz, kz, l), (.u64, Cz, nz, f)]) (by kernel_rfl) (by kernel_rfl) I.drawn ?_
  clear BB Kz Kx Ky tz
  go_big_quiet_step (fail)
  repeat (go_big_quiet_step (first
    | (go_at_call 13; with_reducible exact class_call _ (fun hi => its_ge hi (Q1.out _ hi)))
    | (go_at_call 12; with_reducible exact class_call _ (fun hi => its_ge hi (ref_any sg st Az mz pz Bz kz qz Cz nz rz _)))
    | (go_at_call 14; with_reducible exact class_call _ (fun hi => its_ge hi (Q2.out _ hi)))
    | (go_at_call 27; with_reducible exact class_call _ (fun hi => its_ge hi (Q3.out _)))
    | (go_at_call 28; with_reducible exact class_call _ (fun hi => its_ge hi (Q4.out _)))))
  refine wpQuiet_nil ?_
  rintro _ ⟨j, rfl⟩
  have I2 := j.h
  clear fz0 fz1 fz2 fz3 fz4 fx0 fx1 fx2 fy0 fy1 fy2 Q1 Q2 Q3 Q4 I hne
  generalize j.W = w2 at *
  clear j
  have BB := I2.b
  have Kz : Blk w2 w.heap.size 28 (csT sg st Az mz pz Bz kz qz Cz nz rz) := I2.at_ 0 rfl
  have Kx : Blk w2 (w.heap.size + 1) 42 #[.int .i64 K, .int .i64 G, .int .u64 F] := I2.at_ 1 rfl
  have tz := I2.tab 0 rfl rfl rfl
  clear I2
  go_wp2_with (first | (with_reducible refine load_t rfl (.tmp 3) rfl w.heap.size rfl Kz ?_))
  refine (ref_any sg st Az mz pz Bz kz qz Cz nz rz _).mono ?_
  rintro e' w3 ⟨rfl, hb⟩
  replace Kz := Kz.later hb
  replace Kx := Kx.later hb
  replace tz := tz.later hb
  replace BB := Ge.trans BB hb
  clear hb
  go_wp2_with (first | (with_reducible refine load_t rfl (.tmp 3) rfl w.heap.size rfl Kz ?_))
  refine (rright_is sg st Az mz pz Bz kz qz Cz nz rz o l f b _ tz hmz hkz hnz Hb).mono ?_
  rintro e' w4 ⟨rfl, hb⟩
  replace Kz := Kz.later hb
  replace Kx := Kx.later hb
  replace tz := tz.later hb
  replace BB := Ge.trans BB hb
  clear hb
  cases b
  case false =>
    go_wp2_with fail
    refine (fixed_any _).mono ?_
    rintro e' w5 ⟨rfl, hb⟩
    go_wp2_with fail
    go_ret
    exact ⟨rfl, Ge.trans BB hb⟩
  case true =>
  have HK := Lib.hid ((okT_iff _).1 Hb)
  clear Hb u1
  have HT := Lib.hid tz0
  have hsz := Kx.lt
  go_wp2_with fail
  refine FreeC.wp_freeC (wq [fun u => u = .agg #[.int .i64 sg, .int .i64 st, .slice Az mz pz, .slice Bz kz qz, .slice Cz nz rz], fun u => u = .agg #[.int .i64 sg, .int .i64 st, .slice Az mz pz, .slice Bz kz qz, .slice Cz nz rz], fun u => u = .agg #[.int .i64 sg, .int .i64 st, .slice Az mz pz, .slice Bz kz qz, .slice Cz nz rz], fun u => u = .agg #[.int .i64 K, .int .i64 G, .int .u64 F], TupP, TupP, AggP, AggP, fun u => u = .bool true, fun _ => True, fun _ => True, fun _ => True, fun _ => True, fun u => u = .bool true]) (O6 w (csT sg st Az mz pz Bz kz qz Cz nz rz) #[.int .i64 K, .int .i64 G, .int .u64 F]) (by kernel_rfl) (by kernel_rfl) ⟨Ge.trans BB (below_drawn _), Kz.later (below_drawn _), Kx.later (below_drawn _), (show w.heap.size + 2 ≤ w4.heap.size by omega), fun e => by simp at e, fun e => by simp at e⟩ ?_ ?_
  · clear BB Kz Kx tz
    refine ⟨?_, ?_, ?_, ?_, ?_, ?_, ?_, ?_, ?_, ?_, ?_, ?_, ?_, ?_, trivial⟩
    · intro listed A0 W hA hno hr K' hK
      have e3 : A0.tmps[3]?.getD undef = .pointer (some ⟨w.heap.size, 0, none⟩) := slot_is ((hA.kept 3 (Free.not_dst (by kernel_rfl))).trans rfl)
      have c0 : W.cell? ⟨w.heap.size, 0, none⟩ = some (.int .i64 sg) := hA.c.z.cell 0
      have c1 : W.cell? ⟨w.heap.size, 1, none⟩ = some (.int .i64 st) := hA.c.z.cell 1
      have c2 : W.cell? ⟨w.heap.size, 2, none⟩ = some (.slice Az mz pz) := hA.c.z.cell 2
      have c3 : W.cell? ⟨w.heap.size, 3, none⟩ = some (.slice Bz kz qz) := hA.c.z.cell 3
      have c4 : W.cell? ⟨w.heap.size, 4, none⟩ = some (.slice Cz nz rz) := hA.c.z.cell 4
      simp [go_sem, e3, c0, c1, c2, c3, c4]
      exact hK _ _ (hA.c.step 0 37 _ (by omega) (by omega) (by omega) (by omega) (Below.refl _ _)) rfl (fun j u _ _ hu => wq_any hu)
    · intro listed A0 W hA hno hr K' hK
      have e3 : A0.tmps[3]?.getD undef = .pointer (some ⟨w.heap.size, 0, none⟩) := slot_is ((hA.kept 3 (Free.not_dst (by kernel_rfl))).trans rfl)
      have c0 : W.cell? ⟨w.heap.size, 0, none⟩ = some (.int .i64 sg) := hA.c.z.cell 0
      have c1 : W.cell? ⟨w.heap.size, 1, none⟩ = some (.int .i64 st) := hA.c.z.cell 1
      have c2 : W.cell? ⟨w.heap.size, 2, none⟩ = some (.slice Az mz pz) := hA.c.z.cell 2
      have c3 : W.cell? ⟨w.heap.size, 3, none⟩ = some (.slice Bz kz qz) := hA.c.z.cell 3
      have c4 : W.cell? ⟨w.heap.size, 4, none⟩ = some (.slice Cz nz rz) := hA.c.z.cell 4
      simp [go_sem, e3, c0, c1, c2, c3, c4]
      exact hK _ _ (hA.c.step 1 38 _ (by omega) (by omega) (by omega) (by omega) (Below.refl _ _)) rfl (fun j u _ _ hu => wq_any hu)
    · intro listed A0 W hA hno hr K' hK
      have e38 : A0.tmps[38]?.getD undef = .agg #[.int .i64 sg, .int .i64 st, .slice Az mz pz, .slice Bz kz qz, .slice Cz nz rz] := slot_is (hA.val 1 _ rfl (hr ⟨1, .data⟩ (by simp) rfl))
      simp [go_sem, e38]
      refine (ref_any sg st Az mz pz Bz kz qz Cz nz rz _).mono ?_
      rintro e' w' ⟨rfl, hb⟩
      exact hK _ _ (hA.c.step 2 39 _ (by omega) (by omega) (by omega) (by omega) hb) rfl (fun j u _ _ hu => wq_any hu)
    · intro listed A0 W hA hno hr K' hK
      have e4 : A0.tmps[4]?.getD undef = .pointer (some ⟨w.heap.size + 1, 0, none⟩) := slot_is ((hA.kept 4 (Free.not_dst (by kernel_rfl))).trans rfl)
      have c0 : W.cell? ⟨w.heap.size + 1, 0, none⟩ = some (.int .i64 K) := hA.c.x.cell 0
      have c1 : W.cell? ⟨w.heap.size + 1, 1, none⟩ = some (.int .i64 G) := hA.c.x.cell 1
      have c2 : W.cell? ⟨w.heap.size + 1, 2, none⟩ = some (.int .u64 F) := hA.c.x.cell 2
      simp [go_sem, e4, c0, c1, c2]
      exact hK _ _ (hA.c.step 3 40 _ (by omega) (by omega) (by omega) (by omega) (Below.refl _ _)) rfl (fun j u _ _ hu => wq_any hu)
    · intro listed A0 W hA hno hr K' hK
      have e37 : A0.tmps[37]?.getD undef = .agg #[.int .i64 sg, .int .i64 st, .slice Az mz pz, .slice Bz kz qz, .slice Cz nz rz] := slot_is (hA.val 0 _ rfl (hr ⟨0, .data⟩ (by simp) rfl))
      have e39 : A0.tmps[39]?.getD undef = .agg #[.int .i64 sg, .int .i64 st, .slice Az mz pz, .slice Bz kz qz, .slice Cz nz rz] := slot_is (hA.val 2 _ rfl (hr ⟨2, .data⟩ (by simp) rfl))
      have e40 : A0.tmps[40]?.getD undef = .agg #[.int .i64 K, .int .i64 G, .int .u64 F] := slot_is (hA.val 3 _ rfl (hr ⟨3, .data⟩ (by simp) rfl))
      simp [go_sem, e37, e39, e40]
      refine (do_any sg st Az mz pz Bz kz qz Cz nz rz Az mz pz Bz kz qz Cz nz rz o l f K G F W (HT.out.later hA.c.b) (HT.out.later hA.c.b) HK.out mpz).mono ?_
      rintro e' w' ⟨sg1, st1, A1, m1, p1, B1, k1, q1, C1, n1, r1, A2, m2, p2, B2, k2, q2, C2, n2, r2, o1, l1, f1, rfl, _, _, _, _, hb⟩
      exact hK _ _ (hA.c.step 4 41 _ (by omega) (by omega) (by omega) (by omega) hb) ⟨sg1, st1, A1, m1, p1, B1, k1, q1, C1, n1, r1, A2, m2, p2, B2, k2, q2, C2, n2, r2, rfl⟩ (fun j u _ _ hu => wq_any hu)
    · intro listed A0 W hA hno hr K' hK
      obtain ⟨sg1, st1, A1, m1, p1, B1, k1, q1, C1, n1, r1, A2, m2, p2, B2, k2, q2, C2, n2, r2, e41⟩ := slot_q (p := TupP) (hA.val 4 _ rfl (hr ⟨4, .data⟩ (by simp) rfl))
      simp [go_sem, e41]
      exact hK _ _ (hA.c.step 5 36 _ (by omega) (by omega) (by omega) (by omega) (Below.refl _ _)) ⟨sg1, st1, A1, m1, p1, B1, k1, q1, C1, n1, r1, A2, m2, p2, B2, k2, q2, C2, n2, r2, rfl⟩ (fun j u _ _ hu => wq_any hu)
    · intro listed A0 W hA hno hr K' hK
      obtain ⟨sg1, st1, A1, m1, p1, B1, k1, q1, C1, n1, r1, A2, m2, p2, B2, k2, q2, C2, n2, r2, e36⟩ := slot_q (p := TupP) (hA.val 5 _ rfl (hr ⟨5, .data⟩ (by simp) rfl))
      simp [go_sem, e36]
      exact hK _ _ (hA.c.step 6 42 _ (by omega) (by omega) (by omega) (by omega) (Below.refl _ _)) ⟨sg1, st1, A1, m1, p1, B1, k1, q1, C1, n1, r1, rfl⟩ (fun j u _ _ hu => wq_any hu)
    · intro listed A0 W hA hno hr K' hK
      obtain ⟨sg1, st1, A1, m1, p1, B1, k1, q1, C1, n1, r1, A2, m2, p2, B2, k2, q2, C2, n2, r2, e36⟩ := slot_q (p := TupP) (hA.val 5 _ rfl (hr ⟨5, .data⟩ (by simp) rfl))
      simp [go_sem, e36]
      exact hK _ _ (hA.c.step 7 43 _ (by omega) (by omega) (by omega) (by omega) (Below.refl _ _)) ⟨sg1, st1, A2, m2, p2, B2, k2, q2, C2, n2, r2, rfl⟩ (fun j u _ _ hu => wq_any hu)
    · intro listed A0 W hA hno hr K' hK
      obtain ⟨sg1, st1, A1, m1, p1, B1, k1, q1, C1, n1, r1, A2, m2, p2, B2, k2, q2, C2, n2, r2, e36⟩ := slot_q (p := TupP) (hA.val 5 _ rfl (hr ⟨5, .data⟩ (by simp) rfl))
      simp [go_sem, e36]
      exact hK _ _ (hA.c.step 8 44 _ (by omega) (by omega) (by omega) (by omega) (Below.refl _ _)) rfl (fun j u _ _ hu => wq_any hu)
    · intro listed A0 W hA hno hr K' hK
      have hts := hA.slots
      simp at hts
      simp [go_sem, hv]
      exact hK _ _ (hA.c.al7 (by omega) _ rfl) trivial (fun j u _ _ hu => wq_any hu)
    · intro listed A0 W hA hno hr K' hK
      have hts := hA.slots
      simp at hts
      simp [go_sem, hv2]
      exact hK _ _ (hA.c.al8 (by omega) _ rfl) trivial (fun j u _ _ hu => wq_any hu)
    · intro listed A0 W hA hno hr K' hK
      obtain ⟨sg1, st1, A1, m1, p1, B1, k1, q1, C1, n1, r1, e42⟩ := slot_q (p := AggP) (hA.val 6 _ rfl (hr ⟨6, .data⟩ (by simp) rfl))
      obtain ⟨b, vs, e7, hbb, hvs, hB⟩ := hA.c.k7 (hr ⟨9, .data⟩ (by simp) rfl)
      refine wp_store_row _ (.tmp 7) (.tmp 42) rfl b (csT sg1 st1 A1 m1 p1 B1 k1 q1 C1 n1 r1) e7 (by simpa [Act.eval, csT] using e42) _ _ hB info_t hvs (csT_one _ _ _ _ _ _ _ _ _ _ _) ?_
      exact hK undef _ (hA.c.st7 e7 hbb hB rfl) trivial (fun j u _ _ hu => wq_any hu)
    · intro listed A0 W hA hno hr K' hK
      obtain ⟨sg1, st1, A1, m1, p1, B1, k1, q1, C1, n1, r1, e43⟩ := slot_q (p := AggP) (hA.val 7 _ rfl (hr ⟨7, .data⟩ (by simp) rfl))
      obtain ⟨b, vs, e8, hbb, hvs, hB⟩ := hA.c.k8 (hr ⟨10, .data⟩ (by simp) rfl)
      refine wp_store_row _ (.tmp 8) (.tmp 43) rfl b (csT sg1 st1 A1 m1 p1 B1 k1 q1 C1 n1 r1) e8 (by simpa [Act.eval, csT] using e43) _ _ hB info_r hvs (csT_one _ _ _ _ _ _ _ _ _ _ _) ?_
      exact hK undef _ (hA.c.st8 e8 hbb hB rfl) trivial (fun j u _ _ hu => wq_any hu)
    · intro listed A0 W hA hno hr K' hK
      have e44 : A0.tmps[44]?.getD undef = .bool true := slot_is (hA.val 8 _ rfl (hr ⟨8, .data⟩ (by simp) rfl))
      simp [go_sem, e44]
      exact hK _ _ (hA.c.step 13 9 _ (by omega) (by omega) (by omega) (by omega) (Below.refl _ _)) rfl (fun j u _ _ hu => wq_any hu)
  · intro A0 W hA
    have s3 : A0.tmps.getD 3 undef = .pointer (some ⟨w.heap.size, 0, none⟩) := (hA.kept 3 (Free.not_dst (by kernel_rfl))).trans rfl
    have s4 : A0.tmps.getD 4 undef = .pointer (some ⟨w.heap.size + 1, 0, none⟩) := (hA.kept 4 (Free.not_dst (by kernel_rfl))).trans rfl
    have s9 : A0.tmps.getD 9 undef = .bool true := hA.val 13 _ rfl rfl
    have hsl := hA.slots
    have hde := hA.defers
    have I5 : Its w [(w.heap.size, 28, csT sg st Az mz pz Bz kz qz Cz nz rz), (w.heap.size + 1, 42, #[.int .i64 K, .int .i64 G, .int .u64 F])] [(.i64, Az, mz, o), (.i64, Bz, kz, l), (.u64, Cz, nz, f)] W := (((Its.nil hA.c.b).cons hA.c.x).cons hA.c.z).tcons (HT.out.later hA.c.b)
    clear hA BB Kz Kx tz
    obtain ⟨tm, de⟩ := A0
    simp only at s3 s4 s9 hsl hde
    obtain ⟨y, hy, ee⟩ := arrF85 hsl
    have t3 := (hy _).symm.trans s3
    have t4 := (hy _).symm.trans s4
    have t9 := (hy _).symm.trans s9
    rw [t3, t4, t9] at ee
    clear hy s3 s4 s9 hsl t3 t4 t9
    subst ee hde
    obtain ⟨R, HR⟩ : ∃ R, Hid (roomT ⟨sg, st, o, l, f⟩ = R) := ⟨_, Lib.hid rfl⟩
    obtain ⟨U, HU⟩ : ∃ R, Hid (usedT ⟨sg, st, o, l, f⟩ = R) := ⟨_, Lib.hid rfl⟩
    obtain ⟨L1, HL⟩ : ∃ R, Hid (lenT ⟨sg, st, o, l, f⟩ G = R) := ⟨_, Lib.hid rfl⟩
    have hsg : 0 ≤ sg ∧ sg ≤ 16 := (ok_bd HK.out).1
    have hlo : l.length = o.length := HK.out.2.2.2.2.2.2.1
    have hfl : (freeT ⟨sg, st, o, l, f⟩).length ≤ 30 := by have := (ok_bounds HK.out).f; simp only at this; omega
    go_wp2_with fail
    refine wp_its [.is (.bool true),
    .is (.bool true),
    .is (.agg #[.int .i64 (sg), .int .i64 (st), .slice Az mz pz, .slice Bz kz qz, .slice Cz nz rz]),
    .lst (freeT ⟨sg, st, o, l, f⟩),
    .is (.agg #[.int .i64 (sg), .int .i64 (st), .slice Az mz pz, .slice Bz kz qz, .slice Cz nz rz]),
    .is (.agg #[.int .i64 (sg), .int .i64 (st), .slice Az mz pz, .slice Bz kz qz, .slice Cz nz rz]),
    .lst (freeT ⟨sg, st, o, l, f⟩),
    .is (.bool true),
    .is (.bool true),
    .is (.bool true),
    .is (.agg #[.int .i64 (sg), .int .i64 (st), .slice Az mz pz, .slice Bz kz qz, .slice Cz nz rz]),
    .is (.int .i64 (R)),
    .is (.agg #[.int .i64 (sg), .int .i64 (st), .slice Az mz pz, .slice Bz kz qz, .slice Cz nz rz]),
    .is (.agg #[.int .i64 (sg), .int .i64 (st), .slice Az mz pz, .slice Bz kz qz, .slice Cz nz rz]),
    .is (.int .i64 (R)),
    .is (.bool true),
    .is (.bool true),
    .is (.bool true),
    .is (.agg #[.int .i64 (sg), .int .i64 (st), .slice Az mz pz, .slice Bz kz qz, .slice Cz nz rz]),
    .is (.int .i64 (U)),
    .is (.agg #[.int .i64 (sg), .int .i64 (st), .slice Az mz pz, .slice Bz kz qz, .slice Cz nz rz]),
    .is (.agg #[.int .i64 (sg), .int .i64 (st), .slice Az mz pz, .slice Bz kz qz, .slice Cz nz rz]),
    .is (.int .i64 (U)),
    .is (.bool true),
    .is (.bool true),
    .is (.bool true),
    .is (.agg #[.int .i64 (sg), .int .i64 (st), .slice Az mz pz, .slice Bz kz qz, .slice Cz nz rz]),
    .is (.pointer (some ⟨w.heap.size + 1, 1, none⟩)),
    .is (.int .i64 (G)),
    .is (.int .i64 (L1)),
    .is (.agg #[.int .i64 (sg), .int .i64 (st), .slice Az mz pz, .slice Bz kz qz, .slice Cz nz rz]),
    .is (.agg #[.int .i64 (sg), .int .i64 (st), .slice Az mz pz, .slice Bz kz qz, .slice Cz nz rz]),
    .is (.pointer (some ⟨w.heap.size + 1, 1, none⟩)),
    .is (.int .i64 (G)),
    .is (.int .i64 (L1)),
    .is (.bool true),
    .is (.bool true),
    .is (.bool true),
    .is (.bool true),
    .is (.bool true),
    .is (.bool true)] [(w.heap.size, 28, csT sg st Az mz pz Bz kz qz Cz nz rz), (w.heap.size + 1, 42, #[.int .i64 K, .int .i64 G, .int .u64 F])] [(.i64, Az, mz, o), (.i64, Bz, kz, l), (.u64, Cz, nz, f)] (by kernel_rfl) (by kernel_rfl) I5 ?_ ?_
    · refine ⟨?_, ?_, ?_, ?_, ?_, ?_, ?_, ?_, ?_, ?_, ?_, ?_, ?_, ?_, ?_, ?_, ?_, ?_, ?_, ?_, ?_, ?_, ?_, ?_, ?_, ?_, ?_, ?_, ?_, ?_, ?_, ?_, ?_, ?_, ?_, ?_, ?_, ?_, ?_, ?_, ?_, trivial⟩
      · intro listed A0 W hA hr K hK
        have e9 : A0.tmps[9]?.getD undef = .bool true := slot_is ((hA.kept 9 (Free.not_dst (by kernel_rfl))).trans rfl)
        rw [if_pos (FreeG.wanted_plain rfl)]
        simp [go_sem, e9]
        exact hK _ _ (Below.refl _ _) rfl
      · intro listed A0 W hA hr K hK
        have e45 : A0.tmps[45]?.getD undef = .bool true := slot_is (hA.val 0 _ rfl (hr ⟨0, .data⟩ (by simp) rfl))
        rw [if_pos (FreeG.wanted_plain rfl)]
        simp [go_sem, e45]
        exact hK _ _ (Below.refl _ _) rfl
      · intro listed A0 W hA hr K hK
        have eg : A0.tmps[46]?.getD undef = .bool true := slot_is (hA.val 1 _ rfl (hr ⟨1, .guard⟩ (by simp) rfl))
        have e3 : A0.tmps[3]?.getD undef = .pointer (some ⟨w.heap.size, 0, none⟩) := slot_is ((hA.kept 3 (Free.not_dst (by kernel_rfl))).trans rfl)
        have f0 : W.cell? ⟨w.heap.size, 0, none⟩ = some (.int .i64 (sg)) := (hA.c.at_ 0 rfl).cell 0
        have f1 : W.cell? ⟨w.heap.size, 1, none⟩ = some (.int .i64 (st)) := (hA.c.at_ 0 rfl).cell 1
        have f2 : W.cell? ⟨w.heap.size, 2, none⟩ = some (.slice Az mz pz) := (hA.c.at_ 0 rfl).cell 2
        have f3 : W.cell? ⟨w.heap.size, 3, none⟩ = some (.slice Bz kz qz) := (hA.c.at_ 0 rfl).cell 3
        have f4 : W.cell? ⟨w.heap.size, 4, none⟩ = some (.slice Cz nz rz) := (hA.c.at_ 0 rfl).cell 4
        rw [if_pos (FreeG.wanted_yes rfl rfl rfl eg)]
        simp [go_sem, e3, f0, f1, f2, f3, f4]
        exact hK _ _ (Below.refl _ _) rfl
      · intro listed A0 W hA hr K hK
        have eg : A0.tmps[46]?.getD undef = .bool true := slot_is (hA.val 1 _ rfl (hr ⟨1, .guard⟩ (by simp) rfl))
        have e47 : A0.tmps[47]?.getD undef = .agg #[.int .i64 (sg), .int .i64 (st), .slice Az mz pz, .slice Bz kz qz, .slice Cz nz rz] := slot_is (hA.val 2 _ rfl (hr ⟨2, .data⟩ (by simp) rfl))
        rw [if_pos (FreeG.wanted_yes rfl rfl rfl eg)]
        simp [go_sem, e47]
        refine (tfree_any sg st Az mz pz Bz kz qz Cz nz rz o l f _ (hA.c.tab 0 rfl rfl rfl) hmz hsg).mono ?_
        rintro e' w' ⟨A1, m1, p1, rfl, h1, hb⟩
        exact hK _ _ hb ⟨A1, m1, p1, rfl, h1⟩
      · intro listed A0 W hA hr K hK
        have eg : A0.tmps[46]?.getD undef = .bool true := slot_is (hA.val 1 _ rfl (hr ⟨1, .guard⟩ (by simp) rfl))
        have e3 : A0.tmps[3]?.getD undef = .pointer (some ⟨w.heap.size, 0, none⟩) := slot_is ((hA.kept 3 (Free.not_dst (by kernel_rfl))).trans rfl)
        have f0 : W.cell? ⟨w.heap.size, 0, none⟩ = some (.int .i64 (sg)) := (hA.c.at_ 0 rfl).cell 0
        have f1 : W.cell? ⟨w.heap.size, 1, none⟩ = some (.int .i64 (st)) := (hA.c.at_ 0 rfl).cell 1
        have f2 : W.cell? ⟨w.heap.size, 2, none⟩ = some (.slice Az mz pz) := (hA.c.at_ 0 rfl).cell 2
        have f3 : W.cell? ⟨w.heap.size, 3, none⟩ = some (.slice Bz kz qz) := (hA.c.at_ 0 rfl).cell 3
        have f4 : W.cell? ⟨w.heap.size, 4, none⟩ = some (.slice Cz nz rz) := (hA.c.at_ 0 rfl).cell 4
        rw [if_pos (FreeG.wanted_yes rfl rfl rfl eg)]
        simp [go_sem, e3, f0, f1, f2, f3, f4]
        exact hK _ _ (Below.refl _ _) rfl
      · intro listed A0 W hA hr K hK
        have eg : A0.tmps[46]?.getD undef = .bool true := slot_is (hA.val 1 _ rfl (hr ⟨1, .guard⟩ (by simp) rfl))
        have e49 : A0.tmps[49]?.getD undef = .agg #[.int .i64 (sg), .int .i64 (st), .slice Az mz pz, .slice Bz kz qz, .slice Cz nz rz] := slot_is (hA.val 4 _ rfl (hr ⟨4, .data⟩ (by simp) rfl))
        rw [if_pos (FreeG.wanted_yes rfl rfl rfl eg)]
        simp [go_sem, e49]
        refine (ref_any sg st Az mz pz Bz kz qz Cz nz rz _).mono ?_
        rintro e' w' ⟨rfl, hb⟩
        exact hK _ _ hb rfl
      · intro listed A0 W hA hr K hK
        have eg : A0.tmps[46]?.getD undef = .bool true := slot_is (hA.val 1 _ rfl (hr ⟨1, .guard⟩ (by simp) rfl))
        have e50 : A0.tmps[50]?.getD undef = .agg #[.int .i64 (sg), .int .i64 (st), .slice Az mz pz, .slice Bz kz qz, .slice Cz nz rz] := slot_is (hA.val 5 _ rfl (hr ⟨5, .data⟩ (by simp) rfl))
        rw [if_pos (FreeG.wanted_yes rfl rfl rfl eg)]
        simp [go_sem, e50]
        refine (rfree_any sg st Az mz pz Bz kz qz Cz nz rz o l f _ (hA.c.tab 0 rfl rfl rfl) hmz hsg).mono ?_
        rintro e' w' ⟨A1, m1, p1, rfl, h1, hb⟩
        exact hK _ _ hb ⟨A1, m1, p1, rfl, h1⟩
      · intro listed A0 W hA hr K hK
        have eg : A0.tmps[46]?.getD undef = .bool true := slot_is (hA.val 1 _ rfl (hr ⟨1, .guard⟩ (by simp) rfl))
        have e48 : ∃ A m p, A0.tmps[48]?.getD undef = .slice A m p ∧ Sl .i64 W A m (freeT ⟨sg, st, o, l, f⟩) := slot_lst (hA.val 3 _ rfl (hr ⟨3, .data⟩ (by simp) rfl))
        have e51 : ∃ A m p, A0.tmps[51]?.getD undef = .slice A m p ∧ Sl .i64 W A m (freeT ⟨sg, st, o, l, f⟩) := slot_lst (hA.val 6 _ rfl (hr ⟨6, .data⟩ (by simp) rfl))
        rw [if_pos (FreeG.wanted_yes rfl rfl rfl eg)]
        obtain ⟨A48, m48, p48, h48, s48⟩ := e48
        obtain ⟨A51, m51, p51, h51, s51⟩ := e51
        simp [go_sem, h48, h51]
        refine (ints_yes A48 m48 p48 A51 m51 p51 (freeT ⟨sg, st, o, l, f⟩) _ s48 s51 (size_le s48 hfl)).mono ?_
        rintro e' w' ⟨rfl, hb⟩
        exact hK _ _ hb rfl
      · intro listed A0 W hA hr K hK
        have e46 : A0.tmps[46]?.getD undef = .bool true := slot_is (hA.val 1 _ rfl (hr ⟨1, .data⟩ (by simp) rfl))
        have e52 : A0.tmps[52]?.getD undef = .bool true := slot_is (hA.val 7 _ rfl (hr ⟨7, .data⟩ (by simp) rfl))
        rw [if_pos (FreeG.wanted_plain rfl)]
        simp [go_sem, e46, e52]
        exact hK _ _ (Below.refl _ _) rfl
      · intro listed A0 W hA hr K hK
        have e53 : A0.tmps[53]?.getD undef = .bool true := slot_is (hA.val 8 _ rfl (hr ⟨8, .data⟩ (by simp) rfl))
        rw [if_pos (FreeG.wanted_plain rfl)]
        simp [go_sem, e53]
        exact hK _ _ (Below.refl _ _) rfl
      · intro listed A0 W hA hr K hK
        have eg : A0.tmps[54]?.getD undef = .bool true := slot_is (hA.val 9 _ rfl (hr ⟨9, .guard⟩ (by simp) rfl))
        have e3 : A0.tmps[3]?.getD undef = .pointer (some ⟨w.heap.size, 0, none⟩) := slot_is ((hA.kept 3 (Free.not_dst (by kernel_rfl))).trans rfl)
        have f0 : W.cell? ⟨w.heap.size, 0, none⟩ = some (.int .i64 (sg)) := (hA.c.at_ 0 rfl).cell 0
        have f1 : W.cell? ⟨w.heap.size, 1, none⟩ = some (.int .i64 (st)) := (hA.c.at_ 0 rfl).cell 1
        have f2 : W.cell? ⟨w.heap.size, 2, none⟩ = some (.slice Az mz pz) := (hA.c.at_ 0 rfl).cell 2
        have f3 : W.cell? ⟨w.heap.size, 3, none⟩ = some (.slice Bz kz qz) := (hA.c.at_ 0 rfl).cell 3
        have f4 : W.cell? ⟨w.heap.size, 4, none⟩ = some (.slice Cz nz rz) := (hA.c.at_ 0 rfl).cell 4
        rw [if_pos (FreeG.wanted_yes rfl rfl rfl eg)]
        simp [go_sem, e3, f0, f1, f2, f3, f4]
        exact hK _ _ (Below.refl _ _) rfl
      · intro listed A0 W hA hr K hK
        have eg : A0.tmps[54]?.getD undef = .bool true := slot_is (hA.val 9 _ rfl (hr ⟨9, .guard⟩ (by simp) rfl))
        have e55 : A0.tmps[55]?.getD undef = .agg #[.int .i64 (sg), .int .i64 (st), .slice Az mz pz, .slice Bz kz qz, .slice Cz nz rz] := slot_is (hA.val 10 _ rfl (hr ⟨10, .data⟩ (by simp) rfl))
        rw [if_pos (FreeG.wanted_yes rfl rfl rfl eg)]
        simp [go_sem, e55]
        refine (room_is sg st Az mz pz Bz kz qz Cz nz rz o l f R _ (hA.c.tab 0 rfl rfl rfl) HK.out HR.out).mono ?_
        rintro e' w' ⟨rfl, hb⟩
        exact hK _ _ hb rfl
      · intro listed A0 W hA hr K hK
        have eg : A0.tmps[54]?.getD undef = .bool true := slot_is (hA.val 9 _ rfl (hr ⟨9, .guard⟩ (by simp) rfl))
        have e3 : A0.tmps[3]?.getD undef = .pointer (some ⟨w.heap.size, 0, none⟩) := slot_is ((hA.kept 3 (Free.not_dst (by kernel_rfl))).trans rfl)
        have f0 : W.cell? ⟨w.heap.size, 0, none⟩ = some (.int .i64 (sg)) := (hA.c.at_ 0 rfl).cell 0
        have f1 : W.cell? ⟨w.heap.size, 1, none⟩ = some (.int .i64 (st)) := (hA.c.at_ 0 rfl).cell 1
        have f2 : W.cell? ⟨w.heap.size, 2, none⟩ = some (.slice Az mz pz) := (hA.c.at_ 0 rfl).cell 2
        have f3 : W.cell? ⟨w.heap.size, 3, none⟩ = some (.slice Bz kz qz) := (hA.c.at_ 0 rfl).cell 3
        have f4 : W.cell? ⟨w.heap.size, 4, none⟩ = some (.slice Cz nz rz) := (hA.c.at_ 0 rfl).cell 4
        rw [if_pos (FreeG.wanted_yes rfl rfl rfl eg)]
        simp [go_sem, e3, f0, f1, f2, f3, f4]
        exact hK _ _ (Below.refl _ _) rfl
      · intro listed A0 W hA hr K hK
        have eg : A0.tmps[54]?.getD undef = .bool true := slot_is (hA.val 9 _ rfl (hr ⟨9, .guard⟩ (by simp) rfl))
        have e57 : A0.tmps[57]?.getD undef = .agg #[.int .i64 (sg), .int .i64 (st), .slice Az mz pz, .slice Bz kz qz, .slice Cz nz rz] := slot_is (hA.val 12 _ rfl (hr ⟨12, .data⟩ (by simp) rfl))
        rw [if_pos (FreeG.wanted_yes rfl rfl rfl eg)]
        simp [go_sem, e57]
        refine (ref_any sg st Az mz pz Bz kz qz Cz nz rz _).mono ?_
        rintro e' w' ⟨rfl, hb⟩
        exact hK _ _ hb rfl
      · intro listed A0 W hA hr K hK
        have eg : A0.tmps[54]?.getD undef = .bool true := slot_is (hA.val 9 _ rfl (hr ⟨9, .guard⟩ (by simp) rfl))
        have e58 : A0.tmps[58]?.getD undef = .agg #[.int .i64 (sg), .int .i64 (st), .slice Az mz pz, .slice Bz kz qz, .slice Cz nz rz] := slot_is (hA.val 13 _ rfl (hr ⟨13, .data⟩ (by simp) rfl))
        rw [if_pos (FreeG.wanted_yes rfl rfl rfl eg)]
        simp [go_sem, e58]
        refine (rroom_is sg st Az mz pz Bz kz qz Cz nz rz o l f R _ (hA.c.tab 0 rfl rfl rfl) HK.out HR.out).mono ?_
        rintro e' w' ⟨rfl, hb⟩
        exact hK _ _ hb rfl
      · intro listed A0 W hA hr K hK
        have eg : A0.tmps[54]?.getD undef = .bool true := slot_is (hA.val 9 _ rfl (hr ⟨9, .guard⟩ (by simp) rfl))
        have e56 : A0.tmps[56]?.getD undef = .int .i64 (R) := slot_is (hA.val 11 _ rfl (hr ⟨11, .data⟩ (by simp) rfl))
        have e59 : A0.tmps[59]?.getD undef = .int .i64 (R) := slot_is (hA.val 14 _ rfl (hr ⟨14, .data⟩ (by simp) rfl))
        rw [if_pos (FreeG.wanted_yes rfl rfl rfl eg)]
        simp [go_sem, e56, e59]
        exact hK _ _ (Below.refl _ _) rfl
      · intro listed A0 W hA hr K hK
        have e54 : A0.tmps[54]?.getD undef = .bool true := slot_is (hA.val 9 _ rfl (hr ⟨9, .data⟩ (by simp) rfl))
        have e60 : A0.tmps[60]?.getD undef = .bool true := slot_is (hA.val 15 _ rfl (hr ⟨15, .data⟩ (by simp) rfl))
        rw [if_pos (FreeG.wanted_plain rfl)]
        simp [go_sem, e54, e60]
        exact hK _ _ (Below.refl _ _) rfl
      · intro listed A0 W hA hr K hK
        have e61 : A0.tmps[61]?.getD undef = .bool true := slot_is (hA.val 16 _ rfl (hr ⟨16, .data⟩ (by simp) rfl))
        rw [if_pos (FreeG.wanted_plain rfl)]
        simp [go_sem, e61]
        exact hK _ _ (Below.refl _ _) rfl
      · intro listed A0 W hA hr K hK
        have eg : A0.tmps[62]?.getD undef = .bool true := slot_is (hA.val 17 _ rfl (hr ⟨17, .guard⟩ (by simp) rfl))
        have e3 : A0.tmps[3]?.getD undef = .pointer (some ⟨w.heap.size, 0, none⟩) := slot_is ((hA.kept 3 (Free.not_dst (by kernel_rfl))).trans rfl)
        have f0 : W.cell? ⟨w.heap.size, 0, none⟩ = some (.int .i64 (sg)) := (hA.c.at_ 0 rfl).cell 0
        have f1 : W.cell? ⟨w.heap.size, 1, none⟩ = some (.int .i64 (st)) := (hA.c.at_ 0 rfl).cell 1
        have f2 : W.cell? ⟨w.heap.size, 2, none⟩ = some (.slice Az mz pz) := (hA.c.at_ 0 rfl).cell 2
        have f3 : W.cell? ⟨w.heap.size, 3, none⟩ = some (.slice Bz kz qz) := (hA.c.at_ 0 rfl).cell 3
        have f4 : W.cell? ⟨w.heap.size, 4, none⟩ = some (.slice Cz nz rz) := (hA.c.at_ 0 rfl).cell 4
        rw [if_pos (FreeG.wanted_yes rfl rfl rfl eg)]
        simp [go_sem, e3, f0, f1, f2, f3, f4]
        exact hK _ _ (Below.refl _ _) rfl
      · intro listed A0 W hA hr K hK
        have eg : A0.tmps[62]?.getD undef = .bool true := slot_is (hA.val 17 _ rfl (hr ⟨17, .guard⟩ (by simp) rfl))
        have e63 : A0.tmps[63]?.getD undef = .agg #[.int .i64 (sg), .int .i64 (st), .slice Az mz pz, .slice Bz kz qz, .slice Cz nz rz] := slot_is (hA.val 18 _ rfl (hr ⟨18, .data⟩ (by simp) rfl))
        rw [if_pos (FreeG.wanted_yes rfl rfl rfl eg)]
        simp [go_sem, e63]
        refine (used_is sg st Az mz pz Bz kz qz Cz nz rz o l f U _ (hA.c.tab 0 rfl rfl rfl) (small_ok HK.out) HU.out).mono ?_
        rintro e' w' ⟨rfl, hb⟩
        exact hK _ _ hb rfl
      · intro listed A0 W hA hr K hK
        have eg : A0.tmps[62]?.getD undef = .bool true := slot_is (hA.val 17 _ rfl (hr ⟨17, .guard⟩ (by simp) rfl))
        have e3 : A0.tmps[3]?.getD undef = .pointer (some ⟨w.heap.size, 0, none⟩) := slot_is ((hA.kept 3 (Free.not_dst (by kernel_rfl))).trans rfl)
        have f0 : W.cell? ⟨w.heap.size, 0, none⟩ = some (.int .i64 (sg)) := (hA.c.at_ 0 rfl).cell 0
        have f1 : W.cell? ⟨w.heap.size, 1, none⟩ = some (.int .i64 (st)) := (hA.c.at_ 0 rfl).cell 1
        have f2 : W.cell? ⟨w.heap.size, 2, none⟩ = some (.slice Az mz pz) := (hA.c.at_ 0 rfl).cell 2
        have f3 : W.cell? ⟨w.heap.size, 3, none⟩ = some (.slice Bz kz qz) := (hA.c.at_ 0 rfl).cell 3
        have f4 : W.cell? ⟨w.heap.size, 4, none⟩ = some (.slice Cz nz rz) := (hA.c.at_ 0 rfl).cell 4
        rw [if_pos (FreeG.wanted_yes rfl rfl rfl eg)]
        simp [go_sem, e3, f0, f1, f2, f3, f4]
        exact hK _ _ (Below.refl _ _) rfl
      · intro listed A0 W hA hr K hK
        have eg : A0.tmps[62]?.getD undef = .bool true := slot_is (hA.val 17 _ rfl (hr ⟨17, .guard⟩ (by simp) rfl))
        have e65 : A0.tmps[65]?.getD undef = .agg #[.int .i64 (sg), .int .i64 (st), .slice Az mz pz, .slice Bz kz qz, .slice Cz nz rz] := slot_is (hA.val 20 _ rfl (hr ⟨20, .data⟩ (by simp) rfl))
        rw [if_pos (FreeG.wanted_yes rfl rfl rfl eg)]
        simp [go_sem, e65]
        refine (ref_any sg st Az mz pz Bz kz qz Cz nz rz _).mono ?_
        rintro e' w' ⟨rfl, hb⟩
        exact hK _ _ hb rfl
      · intro listed A0 W hA hr K hK
        have eg : A0.tmps[62]?.getD undef = .bool true := slot_is (hA.val 17 _ rfl (hr ⟨17, .guard⟩ (by simp) rfl))
        have e66 : A0.tmps[66]?.getD undef = .agg #[.int .i64 (sg), .int .i64 (st), .slice Az mz pz, .slice Bz kz qz, .slice Cz nz rz] := slot_is (hA.val 21 _ rfl (hr ⟨21, .data⟩ (by simp) rfl))
        rw [if_pos (FreeG.wanted_yes rfl rfl rfl eg)]
        simp [go_sem, e66]
        refine (rused_is sg st Az mz pz Bz kz qz Cz nz rz o l f U _ (hA.c.tab 0 rfl rfl rfl) (small_ok HK.out) HU.out).mono ?_
        rintro e' w' ⟨rfl, hb⟩
        exact hK _ _ hb rfl
      · intro listed A0 W hA hr K hK
        have eg : A0.tmps[62]?.getD undef = .bool true := slot_is (hA.val 17 _ rfl (hr ⟨17, .guard⟩ (by simp) rfl))
        have e64 : A0.tmps[64]?.getD undef = .int .i64 (U) := slot_is (hA.val 19 _ rfl (hr ⟨19, .data⟩ (by simp) rfl))
        have e67 : A0.tmps[67]?.getD undef = .int .i64 (U) := slot_is (hA.val 22 _ rfl (hr ⟨22, .data⟩ (by simp) rfl))
        rw [if_pos (FreeG.wanted_yes rfl rfl rfl eg)]
        simp [go_sem, e64, e67]
        exact hK _ _ (Below.refl _ _) rfl
      · intro listed A0 W hA hr K hK
        have e62 : A0.tmps[62]?.getD undef = .bool true := slot_is (hA.val 17 _ rfl (hr ⟨17, .data⟩ (by simp) rfl))
        have e68 : A0.tmps[68]?.getD undef = .bool true := slot_is (hA.val 23 _ rfl (hr ⟨23, .data⟩ (by simp) rfl))
        rw [if_pos (FreeG.wanted_plain rfl)]
        simp [go_sem, e62, e68]
        exact hK _ _ (Below.refl _ _) rfl
      · intro listed A0 W hA hr K hK
        have e69 : A0.tmps[69]?.getD undef = .bool true := slot_is (hA.val 24 _ rfl (hr ⟨24, .data⟩ (by simp) rfl))
        rw [if_pos (FreeG.wanted_plain rfl)]
        simp [go_sem, e69]
        exact hK _ _ (Below.refl _ _) rfl
      · intro listed A0 W hA hr K hK
        have eg : A0.tmps[70]?.getD undef = .bool true := slot_is (hA.val 25 _ rfl (hr ⟨25, .guard⟩ (by simp) rfl))
        have e3 : A0.tmps[3]?.getD undef = .pointer (some ⟨w.heap.size, 0, none⟩) := slot_is ((hA.kept 3 (Free.not_dst (by kernel_rfl))).trans rfl)
        have f0 : W.cell? ⟨w.heap.size, 0, none⟩ = some (.int .i64 (sg)) := (hA.c.at_ 0 rfl).cell 0
        have f1 : W.cell? ⟨w.heap.size, 1, none⟩ = some (.int .i64 (st)) := (hA.c.at_ 0 rfl).cell 1
        have f2 : W.cell? ⟨w.heap.size, 2, none⟩ = some (.slice Az mz pz) := (hA.c.at_ 0 rfl).cell 2
        have f3 : W.cell? ⟨w.heap.size, 3, none⟩ = some (.slice Bz kz qz) := (hA.c.at_ 0 rfl).cell 3
        have f4 : W.cell? ⟨w.heap.size, 4, none⟩ = some (.slice Cz nz rz) := (hA.c.at_ 0 rfl).cell 4
        rw [if_pos (FreeG.wanted_yes rfl rfl rfl eg)]
        simp [go_sem, e3, f0, f1, f2, f3, f4]
        exact hK _ _ (Below.refl _ _) rfl
      · intro listed A0 W hA hr K hK
        have eg : A0.tmps[70]?.getD undef = .bool true := slot_is (hA.val 25 _ rfl (hr ⟨25, .guard⟩ (by simp) rfl))
        have e4 : A0.tmps[4]?.getD undef = .pointer (some ⟨w.heap.size + 1, 0, none⟩) := slot_is ((hA.kept 4 (Free.not_dst (by kernel_rfl))).trans rfl)
        rw [if_pos (FreeG.wanted_yes rfl rfl rfl eg)]
        simp [go_sem, e4]
        exact hK _ _ (Below.refl _ _) rfl
      · intro listed A0 W hA hr K hK
        have eg : A0.tmps[70]?.getD undef = .bool true := slot_is (hA.val 25 _ rfl (hr ⟨25, .guard⟩ (by simp) rfl))
        have e72 : A0.tmps[72]?.getD undef = .pointer (some ⟨w.heap.size + 1, 1, none⟩) := slot_is (hA.val 27 _ rfl (hr ⟨27, .data⟩ (by simp) rfl))
        have f0 : W.cell? ⟨w.heap.size + 1, 1, none⟩ = some (.int .i64 (G)) := (hA.c.at_ 1 rfl).cell 1
        rw [if_pos (FreeG.wanted_yes rfl rfl rfl eg)]
        simp [go_sem, e72, f0]
        exact hK _ _ (Below.refl _ _) rfl
      · intro listed A0 W hA hr K hK
        have eg : A0.tmps[70]?.getD undef = .bool true := slot_is (hA.val 25 _ rfl (hr ⟨25, .guard⟩ (by simp) rfl))
        have e71 : A0.tmps[71]?.getD undef = .agg #[.int .i64 (sg), .int .i64 (st), .slice Az mz pz, .slice Bz kz qz, .slice Cz nz rz] := slot_is (hA.val 26 _ rfl (hr ⟨26, .data⟩ (by simp) rfl))
        have e73 : A0.tmps[73]?.getD undef = .int .i64 (G) := slot_is (hA.val 28 _ rfl (hr ⟨28, .data⟩ (by simp) rfl))
        rw [if_pos (FreeG.wanted_yes rfl rfl rfl eg)]
        simp [go_sem, e71, e73]
        refine (len_is sg st Az mz pz Bz kz qz Cz nz rz o l f G L1 _ (hA.c.tab 0 rfl rfl rfl) hmz hlo HL.out).mono ?_
        rintro e' w' ⟨rfl, hb⟩
        exact hK _ _ hb rfl
      · intro listed A0 W hA hr K hK
        have eg : A0.tmps[70]?.getD undef = .bool true := slot_is (hA.val 25 _ rfl (hr ⟨25, .guard⟩ (by simp) rfl))
        have e3 : A0.tmps[3]?.getD undef = .pointer (some ⟨w.heap.size, 0, none⟩) := slot_is ((hA.kept 3 (Free.not_dst (by kernel_rfl))).trans rfl)
        have f0 : W.cell? ⟨w.heap.size, 0, none⟩ = some (.int .i64 (sg)) := (hA.c.at_ 0 rfl).cell 0
        have f1 : W.cell? ⟨w.heap.size, 1, none⟩ = some (.int .i64 (st)) := (hA.c.at_ 0 rfl).cell 1
        have f2 : W.cell? ⟨w.heap.size, 2, none⟩ = some (.slice Az mz pz) := (hA.c.at_ 0 rfl).cell 2
        have f3 : W.cell? ⟨w.heap.size, 3, none⟩ = some (.slice Bz kz qz) := (hA.c.at_ 0 rfl).cell 3
        have f4 : W.cell? ⟨w.heap.size, 4, none⟩ = some (.slice Cz nz rz) := (hA.c.at_ 0 rfl).cell 4
        rw [if_pos (FreeG.wanted_yes rfl rfl rfl eg)]
        simp [go_sem, e3, f0, f1, f2, f3, f4]
        exact hK _ _ (Below.refl _ _) rfl
      · intro listed A0 W hA hr K hK
        have eg : A0.tmps[70]?.getD undef = .bool true := slot_is (hA.val 25 _ rfl (hr ⟨25, .guard⟩ (by simp) rfl))
        have e75 : A0.tmps[75]?.getD undef = .agg #[.int .i64 (sg), .int .i64 (st), .slice Az mz pz, .slice Bz kz qz, .slice Cz nz rz] := slot_is (hA.val 30 _ rfl (hr ⟨30, .data⟩ (by simp) rfl))
        rw [if_pos (FreeG.wanted_yes rfl rfl rfl eg)]
        simp [go_sem, e75]
        refine (ref_any sg st Az mz pz Bz kz qz Cz nz rz _).mono ?_
        rintro e' w' ⟨rfl, hb⟩
        exact hK _ _ hb rfl
      · intro listed A0 W hA hr K hK
        have eg : A0.tmps[70]?.getD undef = .bool true := slot_is (hA.val 25 _ rfl (hr ⟨25, .guard⟩ (by simp) rfl))
        have e4 : A0.tmps[4]?.getD undef = .pointer (some ⟨w.heap.size + 1, 0, none⟩) := slot_is ((hA.kept 4 (Free.not_dst (by kernel_rfl))).trans rfl)
        rw [if_pos (FreeG.wanted_yes rfl rfl rfl eg)]
        simp [go_sem, e4]
        exact hK _ _ (Below.refl _ _) rfl
      · intro listed A0 W hA hr K hK
        have eg : A0.tmps[70]?.getD undef = .bool true := slot_is (hA.val 25 _ rfl (hr ⟨25, .guard⟩ (by simp) rfl))
        have e77 : A0.tmps[77]?.getD undef = .pointer (some ⟨w.heap.size + 1, 1, none⟩) := slot_is (hA.val 32 _ rfl (hr ⟨32, .data⟩ (by simp) rfl))
        have f0 : W.cell? ⟨w.heap.size + 1, 1, none⟩ = some (.int .i64 (G)) := (hA.c.at_ 1 rfl).cell 1
        rw [if_pos (FreeG.wanted_yes rfl rfl rfl eg)]
        simp [go_sem, e77, f0]
        exact hK _ _ (Below.refl _ _) rfl
      · intro listed A0 W hA hr K hK
        have eg : A0.tmps[70]?.getD undef = .bool true := slot_is (hA.val 25 _ rfl (hr ⟨25, .guard⟩ (by simp) rfl))
        have e76 : A0.tmps[76]?.getD undef = .agg #[.int .i64 (sg), .int .i64 (st), .slice Az mz pz, .slice Bz kz qz, .slice Cz nz rz] := slot_is (hA.val 31 _ rfl (hr ⟨31, .data⟩ (by simp) rfl))
        have e78 : A0.tmps[78]?.getD undef = .int .i64 (G) := slot_is (hA.val 33 _ rfl (hr ⟨33, .data⟩ (by simp) rfl))
        rw [if_pos (FreeG.wanted_yes rfl rfl rfl eg)]
        simp [go_sem, e76, e78]
        refine (rlen_is sg st Az mz pz Bz kz qz Cz nz rz o l f G L1 _ (hA.c.tab 0 rfl rfl rfl) hmz hlo HL.out).mono ?_
        rintro e' w' ⟨rfl, hb⟩
        exact hK _ _ hb rfl
      · intro listed A0 W hA hr K hK
        have eg : A0.tmps[70]?.getD undef = .bool true := slot_is (hA.val 25 _ rfl (hr ⟨25, .guard⟩ (by simp) rfl))
        have e74 : A0.tmps[74]?.getD undef = .int .i64 (L1) := slot_is (hA.val 29 _ rfl (hr ⟨29, .data⟩ (by simp) rfl))
        have e79 : A0.tmps[79]?.getD undef = .int .i64 (L1) := slot_is (hA.val 34 _ rfl (hr ⟨34, .data⟩ (by simp) rfl))
        rw [if_pos (FreeG.wanted_yes rfl rfl rfl eg)]
        simp [go_sem, e74, e79]
        exact hK _ _ (Below.refl _ _) rfl
      · intro listed A0 W hA hr K hK
        have e70 : A0.tmps[70]?.getD undef = .bool true := slot_is (hA.val 25 _ rfl (hr ⟨25, .data⟩ (by simp) rfl))
        have e80 : A0.tmps[80]?.getD undef = .bool true := slot_is (hA.val 35 _ rfl (hr ⟨35, .data⟩ (by simp) rfl))
        rw [if_pos (FreeG.wanted_plain rfl)]
        simp [go_sem, e70, e80]
        exact hK _ _ (Below.refl _ _) rfl
      · intro listed A0 W hA hr K hK
        have e81 : A0.tmps[81]?.getD undef = .bool true := slot_is (hA.val 36 _ rfl (hr ⟨36, .data⟩ (by simp) rfl))
        rw [if_pos (FreeG.wanted_plain rfl)]
        simp [go_sem, e81]
        exact hK _ _ (Below.refl _ _) rfl
      · intro listed A0 W hA hr K hK
        have eg : A0.tmps[82]?.getD undef = .bool true := slot_is (hA.val 37 _ rfl (hr ⟨37, .guard⟩ (by simp) rfl))
        rw [if_pos (FreeG.wanted_yes rfl rfl rfl eg)]
        simp [go_sem]
        refine (fixed_any _).mono ?_
        rintro e' w' ⟨rfl, hb⟩
        exact hK _ _ hb rfl
      · intro listed A0 W hA hr K hK
        have e82 : A0.tmps[82]?.getD undef = .bool true := slot_is (hA.val 37 _ rfl (hr ⟨37, .data⟩ (by simp) rfl))
        have e83 : A0.tmps[83]?.getD undef = .bool true := slot_is (hA.val 38 _ rfl (hr ⟨38, .data⟩ (by simp) rfl))
        rw [if_pos (FreeG.wanted_plain rfl)]
        simp [go_sem, e82, e83]
        exact hK _ _ (Below.refl _ _) rfl
      · intro listed A0 W hA hr K hK
        have e84 : A0.tmps[84]?.getD undef = .bool true := slot_is (hA.val 39 _ rfl (hr ⟨39, .data⟩ (by simp) rfl))
        rw [if_pos (FreeG.wanted_plain rfl)]
        simp [go_sem, e84]
        exact hK _ _ (Below.refl _ _) rfl
    · intro A0 W hA
      have s6 : A0.tmps.getD 6 undef = .bool true := hA.val 40 _ rfl rfl
      have hsl := hA.slots
      have hde := hA.defers
      have hb := hA.c.b
      clear hA
      obtain ⟨tm, de⟩ := A0
      simp only at s6 hsl hde
      obtain ⟨y', hy', rfl⟩ := arrF85 hsl
      have t6 : y' 6 = .bool true := (hy' 6).symm.trans s6
      subst hde
      clear s6 hsl hy'
      go_wp2_with fail
      go_ret
      exact ⟨by rw [t6]; rfl, hb⟩

set_option maxRecDepth 100000 in
theorem lifted (os : Os) (started : os.Started) (H : Type) (enc : TypeId × Value → H) :
    ReturnsInHanded {} Try.checked os 4 .any (Rows.tableOnceSpec.pre6 enc Try.prog Try.f4 Rows.tableOnceRow.domain false) (Rows.tableOnceSpec.post enc Try.prog Try.f4 false true false false) := by
  refine returnsInHanded_of_change (C := Try.checked) own started (by kernel_rfl) Try.func4
    (ChangeSpec.witness6 (enc := enc) (C := Try.checked) false ⟨#[], #[.agg #[.int .i64 0, .int .i64 0, .slice none 0 0, .slice none 0 0, .slice none 0 0], .agg #[.int .i64 0, .int .i64 0, .int .u64 0], .agg #[.int .i64 0, .int .i64 0, .int .i64 0]], []⟩ 8 (by kernel_rfl) (by kernel_rfl) (by kernel_rfl) (by kernel_rfl)) ?_
  intro W base args ds gs before hval0 hW hcnd _
  have hval : ∀ (j : Nat) t v, Try.f4.params[j]? = some t → args[j]? = some v → Value.okWide Try.prog W .any base t v := hval0
  have hW' := hW
  obtain ⟨p, q, hA0, hV, rfl, hfz, hnd⟩ := hW
  have hA : DataW.TrodAll enc Try.prog W 0 (fun _ => true) true Try.f4.params.toList args.toList ds p := hA0
  rw [Try.params4] at hA hval
  obtain ⟨v0, vs0, d0, ds0, p0, q0, hargs, rfl, rfl, h0, r0⟩ := trodAll_cons hA
  obtain ⟨v1, vs1, d1, ds1, p1, q1, rfl, rfl, rfl, h1, r1⟩ := trodAll_cons r0
  obtain ⟨v2, vs2, d2, ds2, p2, q2, rfl, rfl, rfl, h2, r2⟩ := trodAll_cons r1
  obtain ⟨rfl, rfl, rfl⟩ := trodAll_nil r2
  obtain rfl : args = #[v0, v1, v2] := by cases args; simp_all
  obtain ⟨rfl, rfl⟩ := trodVars_none hV
  obtain ⟨gs0, ts0, A0, m0, pa0, B0, k0, pb0, C0, n0, pc0, o0, l0, f0, rfl, ht0, hm0, hp0⟩ := open_tab (hval 0 28 v0 rfl rfl) h0
  obtain ⟨K1, G1, F1, rfl, hop1⟩ := open_op (hval 1 42 v1 rfl rfl) h1
  obtain ⟨N2, E2, J2, rfl, hat2⟩ := open_at (hval 2 55 v2 rfl rfl) h2
  clear hA0 hval0
  try simp only [List.append_nil] at hW'
  try simp only [List.nil_append] at hW'
  have hlt := fun x hx => hW'.lt x hx
  refine (walk gs0 ts0 A0 m0 pa0 B0 k0 pb0 C0 n0 pc0 o0 l0 f0 K1 G1 F1 N2 E2 J2 W ht0 hm0 hp0 hop1 hat2).mono fun e W' ⟨he, hg⟩ => ?_
  subst he
  refine ⟨_, rfl, post_mem hW' (fun _ _ _ => (trodAll_cons_mk (shut_bool Try.underlying4 _) trodAll_mk0)) (fun sp hsp => ?_) (fun _ => rfl) hg (ok_one (by kernel_rfl) rfl (okWide_bool_mk Try.underlying4 _))⟩
  have hall := (trodAll_cons_mk (arg_same (sp := sp) laid (by kernel_rfl) (of_decide_eq_true (by kernel_rfl)) h0 hg (by intro x hx; simp_all) hlt hsp) (trodAll_cons_mk (arg_same (sp := sp) laid (by kernel_rfl) (of_decide_eq_true (by kernel_rfl)) h1 hg (by intro x hx; simp_all) hlt hsp) (trodAll_cons_mk (arg_same (sp := sp) laid (by kernel_rfl) (of_decide_eq_true (by kernel_rfl)) h2 hg (by intro x hx; simp_all) hlt hsp) trodAll_mk0)))
  try simp only [List.append_nil] at hall
  try simp only [List.nil_append] at hall
  exact hall

theorem over : Rows.tableOnceRow.holds Try.pinned (OpenSpec.ofChange Rows.tableOnceSpec) :=
  OpenClaim.holds_of_wide 4 Try.f4 rfl rfl rfl rfl rfl rfl rfl ⟨rfl, rfl, rfl, rfl, rfl⟩ rfl rfl rfl rfl rfl (by kernel_rfl) Try.func4 (by kernel_rfl)
    (of_decide_eq_true (by kernel_rfl)) (by unfold Func.isWrapper; first | (rw [if_pos (by decide +kernel)]; kernel_rfl) | (rw [if_neg (by decide +kernel)]; exact ⟨rfl, rfl⟩))
    (fun os started H enc _ => lifted os started H enc)

theorem proved : Rows.TableOnceSaid := over
#print axioms proved
end Go.Proofs.Ytpgbbbgblgkokaa.tableOnce
