/- Contracts of Flush and Crash of package disk over a disk that lies in memory. -/
import Derived.Test.YtoblkjahohlflaaDiskW
import Derived.Deep.LoopGhost
import Derived.Deep.Cut
namespace Go.Proofs.Ytoblkjahohlflaa
open Go.RowKit Go.MapKept Go.Lib
set_option linter.unusedVariables false

theorem flush_dead {w : World} {d : Nat} {F : Nat → Prop} {s : St} (D : DiskAt w d F s) (hd : s.dead) :
    Calls Try.prog 16 #[.pointer (some ⟨d, 0, none⟩)] w fun e w' => e = .returned (.int .i64 9) ∧ w = w' := by
  go_enter Try.func16, Try.ntmps16
  go_wp2_with fail
  refine (usedUp_yes D hd).mono ?_
  rintro e w' ⟨rfl, rfl⟩
  go_wp2_with fail
  go_ret
  exact ⟨rfl, rfl⟩

theorem crashTo_step {keep : Nat → Bool} {torn : Int} {n : Nat} {l : List (Int × ByteArray)} {h : Int → ByteArray} {k : Nat} {p : Int × ByteArray} (hk : l[k]? = some p) :
    crashTo keep torn n l h (k + 1) = if keep k then do1 (crashTo keep torn n l h k) p 128 else if (k : Int) = torn then do1 (crashTo keep torn n l h k) p n else crashTo keep torn n l h k := by
  simp only [crashTo, hk]

theorem do_all {w : World} {d h l : Nat} {v : Value} {F : Nat → Prop} {s : St} (D : DiskIn w d h l v F s) (p : Int × ByteArray) (hp : p.2.size = 128) (hpi : s.has p.1) :
    Calls Try.prog 28 #[.pointer (some ⟨d, 0, none⟩), .agg (wrA p), .int .i64 128] w fun e w' => e = .returned (.tuple #[]) ∧ DiskIn w' d h l v F (s.did (do1 s.held p 128)) ∧ Only F w w' :=
  do_any D p hp hpi 128 (Nat.le_refl _)

set_option maxHeartbeats 1000000 in
theorem flush_yes {w : World} {d : Nat} {F : Nat → Prop} {s : St} (D : DiskAt w d F s) (hd : ¬ s.dead) (hpl : s.pend.length < 1048576) :
    Calls Try.prog 16 #[.pointer (some ⟨d, 0, none⟩)] w fun e w' => e = .returned (.int .i64 0) ∧ (∃ F', DiskAt w' d F' s.flush ∧ Grew w F F') ∧ Only F w w' := by
  have hv := zero_wr.1
  go_enter Try.func16, Try.ntmps16
  go_wp2_with fail
  refine (usedUp_no D hd).mono ?_
  rintro e w' ⟨rfl, rfl⟩
  go_wp2_with fail
  refine (use_any D hd).mono ?_
  rintro e w1 ⟨rfl, D1, O1⟩
  obtain ⟨h, l, v, D2⟩ := D1
  obtain ⟨A, c, rfl⟩ := own_slice D2.own
  have c4 := D2.c4
  have hpl' : s.use.pend.length < 1048576 := hpl
  go_wp2_with fail
  go_loopg [21] s.use.pend.length (fun g t wx => ∃ k : Nat, k + g = s.use.pend.length ∧ t = .int .i64 k ∧ DiskIn wx d h l (.slice A s.use.pend.length c) F (s.use.did (crashTo (fun _ => true) 0 0 s.use.pend s.use.held k)) ∧ Only F w wx)
  case atStart => exact ⟨0, by omega, rfl, D2, O1⟩
  case round =>
    obtain ⟨k, hk, rfl, D3, O3⟩ := hrel
    cases gk with
    | zero =>
      obtain rfl : k = s.use.pend.length := by omega
      go_wp2_with fail
      refine (forget_any ⟨_, _, _, D3⟩).mono ?_
      rintro e w4 ⟨rfl, ⟨F', D4, G4⟩, O4⟩
      go_wp2_with fail
      go_ret
      exact ⟨rfl, ⟨F', D4, fun b hb => (G4 b hb).imp id (fun e => Nat.le_trans O3.size e)⟩, O3.trans O4 (fun i hi => .inl hi)⟩
    | succ g =>
      have hlt : k < s.use.pend.length := by omega
      have hkz : (0 : Int) ≤ (k : Int) := by omega
      have hkz2 : (k : Int) < (s.use.pend.length : Int) := by omega
      have e2 : s.use.pend[k]? = some s.use.pend[k] := List.getElem?_eq_getElem hlt
      generalize s.use.pend[k] = p at e2
      have hpg := D3.good.pend p (List.mem_of_getElem? e2)
      have own3 : wr.ownsRow 0 64 129 (.slice A s.use.pend.length c) s.use.pend.length (s.use.pend.flatMap wrL) := D3.own
      obtain ⟨gb, cap, hA, hrg⟩ := own_range own3 (fun p hp => (D3.good.pend p hp).1) e2
      have hA' : A = some ⟨gb, 0, none⟩ := by injection hA
      subst hA'
      have B0 := Blk.new wr 64 (wrA (0, zeroS))
      have B1 := Blk.new wr 64 (wrA p)
      have R1 : (wr.alloc (.cells (wrA p) 64)).rangeAt wr.heap.size 0 (wrL p) := B1.range 0 _ (fun j v hv => by rw [Nat.zero_add]; simpa [wrA] using hv)
      have hst := crashTo_step (keep := fun _ => true) (torn := 0) (n := 0) (h := s.use.held) e2
      have R0 := Lib.hid hrg
      have RR := Lib.hid R1
      have HST := Lib.hid hst
      have E2 := Lib.hid e2
      have R3 := World.rangeAt_alloc hrg (.cells (wrA (0, zeroS)) 64)
      clear hrg R1 hst e2 hA own3 R3
      go_wp2_with (first
        | (with_reducible refine load_wr rfl (.tmp 23) rfl gb (k * 129) rfl p hpg.1 R0.out ?_)
        | (with_reducible refine store_wr rfl (.tmp 5) (.tmp 24) rfl wr.heap.size p rfl rfl 64 (0, zeroS) B0 hpg.1 zeroS_size ?_; rw [World.setRow_alloc_new])
        | (with_reducible refine load_wr rfl (.tmp 5) rfl wr.heap.size 0 rfl p hpg.1 RR.out ?_))
      refine (do_all (D3.later ((Below.refl _ _).alloc (Nat.le_refl _) _)) p hpg.1 hpg.2).mono ?_
      rintro e w5 ⟨rfl, D5, O5⟩
      have O6 : Only F w w5 := (O3.alloc _).trans O5 (fun i hi => .inl hi)
      have D6 : DiskIn w5 d h l (.slice (some ⟨gb, 0, none⟩) s.use.pend.length c) F (s.use.did (crashTo (fun _ => true) 0 0 s.use.pend s.use.held (k + 1))) := by
        rw [HST.out]; exact D5
      clear D5 O5 D3 B0 B1 D2
      go_wp2_with fail
      go_roundg g
      case measure => omega
      case rel => exact ⟨k + 1, by omega, by go_num, D6, O6⟩

theorem do_at {w : World} {d h l : Nat} {v : Value} {F : Nat → Prop} {s : St} (D : DiskIn w d h l v F s) (p : Int × ByteArray) (hp : p.2.size = 128) (hpi : s.has p.1) (q : Int) (m : Nat) (hq : q = (m : Int)) (hm : m ≤ 128) :
    Calls Try.prog 28 #[.pointer (some ⟨d, 0, none⟩), .agg (wrA p), .int .i64 q] w fun e w' => e = .returned (.tuple #[]) ∧ DiskIn w' d h l v F (s.did (do1 s.held p m)) ∧ Only F w w' := by
  subst hq
  exact do_any D p hp hpi m hm

/-- A slice of bools that lies outside F. -/
def KeepIs (w : World) (F : Nat → Prop) (A : Option Addr) (n : Nat) (keep : Nat → Bool) : Prop :=
  (0 < n → ∃ b o, A = some ⟨b, o, none⟩ ∧ ¬ F b ∧ ∀ j, j < n → w.cell? ⟨b, o + j, none⟩ = some (.bool (keep j))) ∧ ∀ j, n ≤ j → keep j = false
theorem KeepIs.only {w w' : World} {F : Nat → Prop} {A : Option Addr} {n : Nat} {keep : Nat → Bool} (h : KeepIs w F A n keep) (ho : Only F w w') : KeepIs w' F A n keep := by
  refine ⟨fun hn => ?_, h.2⟩
  obtain ⟨b, o, e, hF, hc⟩ := h.1 hn
  refine ⟨b, o, e, hF, fun j hj => ?_⟩
  have := hc j hj
  exact (World.cell?_of_block (ho.block b (World.block_lt_of_cell? w _ this) hF)).trans this

def clampN (a : Int) : Nat := if a < 0 then 0 else if 128 < a then 128 else a.toNat

set_option maxHeartbeats 4000000 in
theorem crash_any {w : World} {d : Nat} {F : Nat → Prop} {s : St} (D : DiskAt w d F s) (A : Option Addr) (n c : Nat) (hn : n ≤ maxLen) (keep : Nat → Bool) (torn pos : Int) (hk : KeepIs w F A n keep) (hpl : s.pend.length < 1048576) :
    Calls Try.prog 11 #[.pointer (some ⟨d, 0, none⟩), .slice A n c, .int .i64 torn, .int .i64 pos] w fun e w' => e = .returned (.tuple #[]) ∧ (∃ F', DiskAt w' d F' (s.crash keep torn (clampN pos)) ∧ Grew w F F') ∧ Only F w w' := by
  have hv := zero_wr.1
  unfold maxLen at hn
  obtain ⟨h, l, v, D2⟩ := D
  obtain ⟨A2, c2, rfl⟩ := own_slice D2.own
  have c4 := D2.c4
  go_enter Try.func11, Try.ntmps11
  go_wp2_with fail
  go_loopg [18] s.pend.length (fun g t wx => ∃ k : Nat, k + g = s.pend.length ∧ t = .int .i64 k ∧ DiskIn wx d h l (.slice A2 s.pend.length c2) F (s.did (crashTo keep torn (clampN pos) s.pend s.held k)) ∧ Only F w wx)
  case atStart => exact ⟨0, by omega, rfl, D2, Only.refl _ _⟩
  case round =>
    obtain ⟨k, hkg, rfl, D3, O3⟩ := hrel
    cases gk with
    | zero =>
      obtain rfl : k = s.pend.length := by omega
      go_wp2_with fail
      refine (forget_any ⟨_, _, _, D3⟩).mono ?_
      rintro e w4 ⟨rfl, ⟨F', D4, G4⟩, O4⟩
      obtain ⟨h4, l4, v4, D5⟩ := D4
      have c0 := D5.c0
      have c1 := D5.c1
      have f0 := D5.blk.frozen 0
      have f1 := D5.blk.frozen 1
      have b1 := (D5.blk.set_ 0 (.bool false)).set_ 1 (.int .i64 0)
      have hg6 : (s.crash keep torn (clampN pos)).Good := D2.good.crash _ _ _
      have D6 : DiskIn ((w4.setCell ⟨d, 0, none⟩ (.bool false)).setCell ⟨d, 1, none⟩ (.int .i64 0)) d h4 l4 v4 F' (s.crash keep torn (clampN pos)) :=
        D5.turn (((Only.refl (fun i => i = d) w4).setCell (p := ⟨d, 0, none⟩) (.inl rfl) _).setCell (p := ⟨d, 1, none⟩) (.inl rfl) _) b1 rfl rfl hg6
      have O6 : Only F w ((w4.setCell ⟨d, 0, none⟩ (.bool false)).setCell ⟨d, 1, none⟩ (.int .i64 0)) := ((O3.trans O4 (fun i hi => .inl hi)).setCell (.inl D2.fd) _).setCell (.inl D2.fd) _
      have FIN := Lib.hid (⟨⟨F', ⟨_, _, _, D6⟩, fun b hb => (G4 b hb).imp id (fun e => Nat.le_trans O3.size e)⟩, O6⟩ : (∃ F', DiskAt _ d F' (s.crash keep torn (clampN pos)) ∧ Grew w F F') ∧ Only F w _)
      clear D5 D6 b1 hg6 O6 O4 G4 D3 D2 O3
      go_wp2_with fail
      go_end0
      exact ⟨rfl, FIN.out⟩
    | succ g =>
      have hlt : k < s.pend.length := by omega
      have hkz : (0 : Int) ≤ (k : Int) := by omega
      have hkz2 : (k : Int) < (s.pend.length : Int) := by omega
      have e2 : s.pend[k]? = some s.pend[k] := List.getElem?_eq_getElem hlt
      generalize s.pend[k] = p at e2
      have hpg := D3.good.pend p (List.mem_of_getElem? e2)
      have own3 : wr.ownsRow 0 64 129 (.slice A2 s.pend.length c2) s.pend.length (s.pend.flatMap wrL) := D3.own
      obtain ⟨gb, cap, hA, hrg⟩ := own_range own3 (fun p hp => (D3.good.pend p hp).1) e2
      have hA' : A2 = some ⟨gb, 0, none⟩ := by injection hA
      subst hA'
      have B0 := Blk.new wr 64 (wrA (0, zeroS))
      have B1 := Blk.new wr 64 (wrA p)
      have R1 : (wr.alloc (.cells (wrA p) 64)).rangeAt wr.heap.size 0 (wrL p) := B1.range 0 _ (fun j v hv => by rw [Nat.zero_add]; simpa [wrA] using hv)
      have hst := crashTo_step (keep := keep) (torn := torn) (n := clampN pos) (h := s.held) e2
      have hk4 := (hk.only O3).only ((Only.refl F wr).alloc (.cells (wrA p) 64))
      have R0 := Lib.hid hrg
      have RR := Lib.hid R1
      have HST := Lib.hid hst
      have E2 := Lib.hid e2
      clear hrg R1 hst e2 hA own3 hk D2 c4
      by_cases hkn : k < n
      · obtain ⟨kb, ko, rfl, hkF, hkc⟩ := hk4.1 (by omega)
        have hc := hkc k hkn
        have hkn2 : (k : Int) < (n : Int) := by omega
        clear hkc hk4
        cases hkk : keep k
        · rw [hkk] at hc
          by_cases ht : (k : Int) = torn
          · have he : (if keep k then do1 (crashTo keep torn (clampN pos) s.pend s.held k) p 128 else if (k : Int) = torn then do1 (crashTo keep torn (clampN pos) s.pend s.held k) p (clampN pos) else crashTo keep torn (clampN pos) s.pend s.held k) = do1 (crashTo keep torn (clampN pos) s.pend s.held k) p (clampN pos) := by rw [hkk, if_pos ht]; rfl
            have HE := Lib.hid he
            have hbt : ((k : Int) == torn) = true := beq_iff_eq.2 ht
            clear he hkk ht
            by_cases hp0 : pos < 0
            · have hcl : clampN pos = 0 := by unfold clampN; rw [if_pos hp0]
              have HC := Lib.hid hcl
              clear hcl
              go_wp2_with (first
                | (with_reducible refine load_wr rfl (.tmp 21) rfl gb (k * 129) rfl p hpg.1 R0.out ?_)
                | (with_reducible refine store_wr rfl (.tmp 10) (.tmp 22) rfl wr.heap.size p rfl rfl 64 (0, zeroS) B0 hpg.1 zeroS_size ?_; rw [World.setRow_alloc_new])
                | (with_reducible refine load_wr rfl (.tmp 10) rfl wr.heap.size 0 rfl p hpg.1 RR.out ?_))
              refine (do_at (D3.later ((Below.refl _ _).alloc (Nat.le_refl _) _)) p hpg.1 hpg.2 0 (clampN pos) (by rw [HC.out]; rfl) (by rw [HC.out]; omega)).mono ?_
              rintro e w5 ⟨rfl, D5, O5⟩
              have O6 : Only F w w5 := (O3.alloc _).trans O5 (fun i hi => .inl hi)
              have D6 : DiskIn w5 d h l (.slice (some ⟨gb, 0, none⟩) s.pend.length c2) F (s.did (crashTo keep torn (clampN pos) s.pend s.held (k + 1))) := by
                rw [HST.out, HE.out]; exact D5
              clear D5 O5 D3 B0 B1
              go_wp2_with fail
              go_roundg g
              case measure => omega
              case rel => exact ⟨k + 1, by omega, by go_num, D6, O6⟩
            · by_cases hp1 : 128 < pos
              · have hcl : clampN pos = 128 := by unfold clampN; rw [if_neg hp0, if_pos hp1]
                have HC := Lib.hid hcl
                clear hcl hp0
                have hp0 : 0 ≤ pos := by omega
                go_wp2_with (first
                  | (with_reducible refine load_wr rfl (.tmp 21) rfl gb (k * 129) rfl p hpg.1 R0.out ?_)
                  | (with_reducible refine store_wr rfl (.tmp 10) (.tmp 22) rfl wr.heap.size p rfl rfl 64 (0, zeroS) B0 hpg.1 zeroS_size ?_; rw [World.setRow_alloc_new])
                  | (with_reducible refine load_wr rfl (.tmp 10) rfl wr.heap.size 0 rfl p hpg.1 RR.out ?_))
                refine (do_at (D3.later ((Below.refl _ _).alloc (Nat.le_refl _) _)) p hpg.1 hpg.2 128 (clampN pos) (by rw [HC.out]; rfl) (by rw [HC.out]; omega)).mono ?_
                rintro e w5 ⟨rfl, D5, O5⟩
                have O6 : Only F w w5 := (O3.alloc _).trans O5 (fun i hi => .inl hi)
                have D6 : DiskIn w5 d h l (.slice (some ⟨gb, 0, none⟩) s.pend.length c2) F (s.did (crashTo keep torn (clampN pos) s.pend s.held (k + 1))) := by
                  rw [HST.out, HE.out]; exact D5
                clear D5 O5 D3 B0 B1
                go_wp2_with fail
                go_roundg g
                case measure => omega
                case rel => exact ⟨k + 1, by omega, by go_num, D6, O6⟩
              · have hcl : clampN pos = pos.toNat := by unfold clampN; rw [if_neg hp0, if_neg hp1]
                have hq0 : 0 ≤ pos := by omega
                have hq1 : pos ≤ 128 := by omega
                have HC := Lib.hid hcl
                clear hcl hp0 hp1
                go_wp2_with (first
                  | (with_reducible refine load_wr rfl (.tmp 21) rfl gb (k * 129) rfl p hpg.1 R0.out ?_)
                  | (with_reducible refine store_wr rfl (.tmp 10) (.tmp 22) rfl wr.heap.size p rfl rfl 64 (0, zeroS) B0 hpg.1 zeroS_size ?_; rw [World.setRow_alloc_new])
                  | (with_reducible refine load_wr rfl (.tmp 10) rfl wr.heap.size 0 rfl p hpg.1 RR.out ?_))
                refine (do_at (D3.later ((Below.refl _ _).alloc (Nat.le_refl _) _)) p hpg.1 hpg.2 pos (clampN pos) (by rw [HC.out]; omega) (by rw [HC.out]; omega)).mono ?_
                rintro e w5 ⟨rfl, D5, O5⟩
                have O6 : Only F w w5 := (O3.alloc _).trans O5 (fun i hi => .inl hi)
                have D6 : DiskIn w5 d h l (.slice (some ⟨gb, 0, none⟩) s.pend.length c2) F (s.did (crashTo keep torn (clampN pos) s.pend s.held (k + 1))) := by
                  rw [HST.out, HE.out]; exact D5
                clear D5 O5 D3 B0 B1
                go_wp2_with fail
                go_roundg g
                case measure => omega
                case rel => exact ⟨k + 1, by omega, by go_num, D6, O6⟩
          · have he : (if keep k then do1 (crashTo keep torn (clampN pos) s.pend s.held k) p 128 else if (k : Int) = torn then do1 (crashTo keep torn (clampN pos) s.pend s.held k) p (clampN pos) else crashTo keep torn (clampN pos) s.pend s.held k) = crashTo keep torn (clampN pos) s.pend s.held k := by rw [hkk, if_neg ht]; rfl
            have HE := Lib.hid he
            have hbt : ((k : Int) == torn) = false := beq_eq_false_iff_ne.2 ht
            clear he hkk ht
            go_wp2_with (first
              | (with_reducible refine load_wr rfl (.tmp 21) rfl gb (k * 129) rfl p hpg.1 R0.out ?_)
              | (with_reducible refine store_wr rfl (.tmp 10) (.tmp 22) rfl wr.heap.size p rfl rfl 64 (0, zeroS) B0 hpg.1 zeroS_size ?_; rw [World.setRow_alloc_new])
              | (with_reducible refine load_wr rfl (.tmp 10) rfl wr.heap.size 0 rfl p hpg.1 RR.out ?_))
            have O6 : Only F w (wr.alloc (.cells (wrA p) 64)) := O3.alloc _
            have D6 : DiskIn (wr.alloc (.cells (wrA p) 64)) d h l (.slice (some ⟨gb, 0, none⟩) s.pend.length c2) F (s.did (crashTo keep torn (clampN pos) s.pend s.held (k + 1))) := by
              rw [HST.out, HE.out]; exact D3.later ((Below.refl _ _).alloc (Nat.le_refl _) _)
            clear D3 B0 B1
            go_roundg g
            case measure => omega
            case rel => exact ⟨k + 1, by omega, by go_num, D6, O6⟩
        · rw [hkk] at hc
          have he : (if keep k then do1 (crashTo keep torn (clampN pos) s.pend s.held k) p 128 else if (k : Int) = torn then do1 (crashTo keep torn (clampN pos) s.pend s.held k) p (clampN pos) else crashTo keep torn (clampN pos) s.pend s.held k) = do1 (crashTo keep torn (clampN pos) s.pend s.held k) p 128 := by rw [hkk]; rfl
          have HE := Lib.hid he
          clear he hkk
          go_wp2_with (first
            | (with_reducible refine load_wr rfl (.tmp 21) rfl gb (k * 129) rfl p hpg.1 R0.out ?_)
            | (with_reducible refine store_wr rfl (.tmp 10) (.tmp 22) rfl wr.heap.size p rfl rfl 64 (0, zeroS) B0 hpg.1 zeroS_size ?_; rw [World.setRow_alloc_new])
            | (with_reducible refine load_wr rfl (.tmp 10) rfl wr.heap.size 0 rfl p hpg.1 RR.out ?_))
          refine (do_at (D3.later ((Below.refl _ _).alloc (Nat.le_refl _) _)) p hpg.1 hpg.2 128 128 (rfl) (Nat.le_refl _)).mono ?_
          rintro e w5 ⟨rfl, D5, O5⟩
          have O6 : Only F w w5 := (O3.alloc _).trans O5 (fun i hi => .inl hi)
          have D6 : DiskIn w5 d h l (.slice (some ⟨gb, 0, none⟩) s.pend.length c2) F (s.did (crashTo keep torn (clampN pos) s.pend s.held (k + 1))) := by
            rw [HST.out, HE.out]; exact D5
          clear D5 O5 D3 B0 B1
          go_wp2_with fail
          go_roundg g
          case measure => omega
          case rel => exact ⟨k + 1, by omega, by go_num, D6, O6⟩
      · have hkk : keep k = false := hk4.2 k (by omega)
        have hkn2 : decide (k < n) = false := by simp; omega
        have hkn3 : decide ((k : Int) < (n : Int)) = false := by simp; omega
        clear hk4 hkn
        by_cases ht : (k : Int) = torn
        · have he : (if keep k then do1 (crashTo keep torn (clampN pos) s.pend s.held k) p 128 else if (k : Int) = torn then do1 (crashTo keep torn (clampN pos) s.pend s.held k) p (clampN pos) else crashTo keep torn (clampN pos) s.pend s.held k) = do1 (crashTo keep torn (clampN pos) s.pend s.held k) p (clampN pos) := by rw [hkk, if_pos ht]; rfl
          have HE := Lib.hid he
          have hbt : ((k : Int) == torn) = true := beq_iff_eq.2 ht
          clear he hkk ht
          by_cases hp0 : pos < 0
          · have hcl : clampN pos = 0 := by unfold clampN; rw [if_pos hp0]
            have HC := Lib.hid hcl
            clear hcl
            go_wp2_with (first
              | (with_reducible refine load_wr rfl (.tmp 21) rfl gb (k * 129) rfl p hpg.1 R0.out ?_)
              | (with_reducible refine store_wr rfl (.tmp 10) (.tmp 22) rfl wr.heap.size p rfl rfl 64 (0, zeroS) B0 hpg.1 zeroS_size ?_; rw [World.setRow_alloc_new])
              | (with_reducible refine load_wr rfl (.tmp 10) rfl wr.heap.size 0 rfl p hpg.1 RR.out ?_))
            refine (do_at (D3.later ((Below.refl _ _).alloc (Nat.le_refl _) _)) p hpg.1 hpg.2 0 (clampN pos) (by rw [HC.out]; rfl) (by rw [HC.out]; omega)).mono ?_
            rintro e w5 ⟨rfl, D5, O5⟩
            have O6 : Only F w w5 := (O3.alloc _).trans O5 (fun i hi => .inl hi)
            have D6 : DiskIn w5 d h l (.slice (some ⟨gb, 0, none⟩) s.pend.length c2) F (s.did (crashTo keep torn (clampN pos) s.pend s.held (k + 1))) := by
              rw [HST.out, HE.out]; exact D5
            clear D5 O5 D3 B0 B1
            go_wp2_with fail
            go_roundg g
            case measure => omega
            case rel => exact ⟨k + 1, by omega, by go_num, D6, O6⟩
          · by_cases hp1 : 128 < pos
            · have hcl : clampN pos = 128 := by unfold clampN; rw [if_neg hp0, if_pos hp1]
              have HC := Lib.hid hcl
              clear hcl hp0
              have hp0 : 0 ≤ pos := by omega
              go_wp2_with (first
                | (with_reducible refine load_wr rfl (.tmp 21) rfl gb (k * 129) rfl p hpg.1 R0.out ?_)
                | (with_reducible refine store_wr rfl (.tmp 10) (.tmp 22) rfl wr.heap.size p rfl rfl 64 (0, zeroS) B0 hpg.1 zeroS_size ?_; rw [World.setRow_alloc_new])
                | (with_reducible refine load_wr rfl (.tmp 10) rfl wr.heap.size 0 rfl p hpg.1 RR.out ?_))
              refine (do_at (D3.later ((Below.refl _ _).alloc (Nat.le_refl _) _)) p hpg.1 hpg.2 128 (clampN pos) (by rw [HC.out]; rfl) (by rw [HC.out]; omega)).mono ?_
              rintro e w5 ⟨rfl, D5, O5⟩
              have O6 : Only F w w5 := (O3.alloc _).trans O5 (fun i hi => .inl hi)
              have D6 : DiskIn w5 d h l (.slice (some ⟨gb, 0, none⟩) s.pend.length c2) F (s.did (crashTo keep torn (clampN pos) s.pend s.held (k + 1))) := by
                rw [HST.out, HE.out]; exact D5
              clear D5 O5 D3 B0 B1
              go_wp2_with fail
              go_roundg g
              case measure => omega
              case rel => exact ⟨k + 1, by omega, by go_num, D6, O6⟩
            · have hcl : clampN pos = pos.toNat := by unfold clampN; rw [if_neg hp0, if_neg hp1]
              have hq0 : 0 ≤ pos := by omega
              have hq1 : pos ≤ 128 := by omega
              have HC := Lib.hid hcl
              clear hcl hp0 hp1
              go_wp2_with (first
                | (with_reducible refine load_wr rfl (.tmp 21) rfl gb (k * 129) rfl p hpg.1 R0.out ?_)
                | (with_reducible refine store_wr rfl (.tmp 10) (.tmp 22) rfl wr.heap.size p rfl rfl 64 (0, zeroS) B0 hpg.1 zeroS_size ?_; rw [World.setRow_alloc_new])
                | (with_reducible refine load_wr rfl (.tmp 10) rfl wr.heap.size 0 rfl p hpg.1 RR.out ?_))
              refine (do_at (D3.later ((Below.refl _ _).alloc (Nat.le_refl _) _)) p hpg.1 hpg.2 pos (clampN pos) (by rw [HC.out]; omega) (by rw [HC.out]; omega)).mono ?_
              rintro e w5 ⟨rfl, D5, O5⟩
              have O6 : Only F w w5 := (O3.alloc _).trans O5 (fun i hi => .inl hi)
              have D6 : DiskIn w5 d h l (.slice (some ⟨gb, 0, none⟩) s.pend.length c2) F (s.did (crashTo keep torn (clampN pos) s.pend s.held (k + 1))) := by
                rw [HST.out, HE.out]; exact D5
              clear D5 O5 D3 B0 B1
              go_wp2_with fail
              go_roundg g
              case measure => omega
              case rel => exact ⟨k + 1, by omega, by go_num, D6, O6⟩
        · have he : (if keep k then do1 (crashTo keep torn (clampN pos) s.pend s.held k) p 128 else if (k : Int) = torn then do1 (crashTo keep torn (clampN pos) s.pend s.held k) p (clampN pos) else crashTo keep torn (clampN pos) s.pend s.held k) = crashTo keep torn (clampN pos) s.pend s.held k := by rw [hkk, if_neg ht]; rfl
          have HE := Lib.hid he
          have hbt : ((k : Int) == torn) = false := beq_eq_false_iff_ne.2 ht
          clear he hkk ht
          go_wp2_with (first
            | (with_reducible refine load_wr rfl (.tmp 21) rfl gb (k * 129) rfl p hpg.1 R0.out ?_)
            | (with_reducible refine store_wr rfl (.tmp 10) (.tmp 22) rfl wr.heap.size p rfl rfl 64 (0, zeroS) B0 hpg.1 zeroS_size ?_; rw [World.setRow_alloc_new])
            | (with_reducible refine load_wr rfl (.tmp 10) rfl wr.heap.size 0 rfl p hpg.1 RR.out ?_))
          have O6 : Only F w (wr.alloc (.cells (wrA p) 64)) := O3.alloc _
          have D6 : DiskIn (wr.alloc (.cells (wrA p) 64)) d h l (.slice (some ⟨gb, 0, none⟩) s.pend.length c2) F (s.did (crashTo keep torn (clampN pos) s.pend s.held (k + 1))) := by
            rw [HST.out, HE.out]; exact D3.later ((Below.refl _ _).alloc (Nat.le_refl _) _)
          clear D3 B0 B1
          go_roundg g
          case measure => omega
          case rel => exact ⟨k + 1, by omega, by go_num, D6, O6⟩

end Go.Proofs.Ytoblkjahohlflaa
