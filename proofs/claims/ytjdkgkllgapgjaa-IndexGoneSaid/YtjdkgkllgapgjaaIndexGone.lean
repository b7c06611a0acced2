/- For all inputs the statement IndexGone about index returns true, and changes nothing. Conditions: none. -/
import Derived.Test.YtjdkgkllgapgjaaJxP
import Derived.Test.YtjdkgkllgapgjaaClass
import Derived.Deep.RegionWith
import Derived.Test.YtjdkgkllgapgjaaJxO
import Derived.Test.YtjdkgkllgapgjaaMem
import Derived.ProofKit
import Derived.OpenShut
import Derived.ShutString
import Derived.SizedLaws
namespace Go.Proofs.Ytjdkgkllgapgjaa.indexGone
open Go.ChangeShapes Go.WideShapes Go.ChangeAt Go.RowKit Go.Lib Go.MapKept
open Go.ChangeMaps (open_string shut_string)
set_option linter.unusedVariables false
set_option linter.unusedSimpArgs false

theorem own : ownKnob Try.prog.godebug = none := by kernel_rfl
theorem laid : laidOutB Try.prog = true := by kernel_rfl

set_option maxRecDepth 100000
open Ix Sp
open Re (Rec Key isL rcA RR RC cut80 cutR ROk)
theorem int_infos : (Try.prog.info? 3).map (fun i => (i.zero, i.size, i.bytes)) = some (some (.int .i64 0), 1, 8) := by kernel_rfl
def keyAt (L : List Rec) (j : Nat) : Key := match L[j]? with
  | some r => (cutR r).key
  | none => []
def els (x : Idx) (L : List Rec) (s : Int) (q : Nat) : List Value := (List.range q).map fun j => .int .i64 (othX x (keyAt L j) s : Nat)
theorem els_succ (x : Idx) (L : List Rec) (s : Int) (q : Nat) : els x L s (q + 1) = els x L s q ++ [.int .i64 (othX x (keyAt L q) s : Nat)] := by
  unfold els
  rw [List.range_succ, List.map_append]
  rfl
theorem els_get (x : Idx) (L : List Rec) (s : Int) {q j : Nat} (hj : j < q) : (els x L s q)[j]? = some (.int .i64 (othX x (keyAt L j) s : Nat)) := by
  unfold els
  rw [List.getElem?_map, List.getElem?_range hj]
  rfl
theorem taken_le (x : Idx) (s : Int) : ∀ q, takenN x s q ≤ q
  | 0 => Nat.le_refl _
  | q + 1 => by
    have := taken_le x s q
    rw [takenN]
    split <;> omega
abbrev rowE (v : Value) (xs : List Value) (q : Nat) : Sp.Item := rowS 3 1 v q xs
set_option maxHeartbeats 32000000 in
theorem walk {XI : Nat → Idx → Sp.Item} (P : Prg XI) (A : Option Addr) (n c : Nat) (L : List Rec) (a : Int) (w : World) (hR : RR w A n L) (hn : n ≤ maxLen) (hf : ∀ r ∈ L, ROk r) (ha : 0 ≤ a ∧ a ≤ 255) :
    Calls Try.prog 6 #[.slice A n c, .int .u8 a] w fun e w' => e = .returned (.bool true) ∧ Below w.heap.size w w' := by
  have HP := Lib.hid P
  have HR := Lib.hid hR
  have HF := Lib.hid hf
  have HML := Lib.hid hn
  have HLEN := Lib.hid hR.len
  obtain ⟨m, hm⟩ : ∃ m, min n 40 = m := ⟨_, rfl⟩
  have HM := Lib.hid hm
  have HFL := Lib.hid (filled_any (p := c) P (Sp.Sep.nil (Below.refl w.heap.size w)) hR hf hn)
  rw [hm] at HFL
  obtain ⟨x, hx⟩ : ∃ x, flN L m = x := ⟨_, rfl⟩
  rw [hx] at HFL
  have HG : Hid (Ix.Good x) := Lib.hid (by rw [← hx]; exact (fl_good hf m (by omega)).1)
  have HLY : Hid (Lay x) := Lib.hid (by rw [← hx]; exact fl_lay (by omega))
  obtain ⟨s, hs⟩ : ∃ s, a % 10 = s := ⟨_, rfl⟩
  have HS0 : Hid (0 ≤ s ∧ s < 10) := Lib.hid (by omega)
  have HI : Hid (I64 s) := Lib.hid (by unfold I64; omega)
  have w0 : IntKind.i64.wrap a = a := IntWalk.i64_in _ (by omega)
  have w1 : a.tmod 10 = s := by rw [← hs]; exact Int.tmod_eq_emod_of_nonneg (by omega)
  have w2 : IntKind.i64.wrap s = s := IntWalk.i64_in _ (by omega)
  clear P hR hf hn hm hx ha
  go_enter Try.func6, Try.ntmps6
  go_upto_region 5 with (first
    | (go_at_call 7; refine HFL.out.mono ?_; rintro e3 w3 ⟨g, rfl, h3⟩; have H3 := Lib.hid h3; clear h3))
  clear HFL w0 w1 w2
  have H4 : Hid (Sp.Sep w (w3.alloc (.cells #[] 3)) [XI g x, rowE (.slice (some ⟨w3.heap.size, 0, none⟩) 0 0) (els x L s 0) 0]) := Lib.hid (rows_lit H3.out 3 1)
  go_upto_region 7 with fail
  generalize w3.alloc (.cells #[] 3) = w4 at *
  clear H3
  go_loopg [7, 9] m (fun gk s7 s9 wr => ∃ (q : Nat), q ≤ m ∧ gk = m - q ∧ s9 = .int .i64 (q : Nat) ∧ Hid (Sp.Sep w wr [XI g x, rowE s7 (els x L s q) q]))
  case atStart => exact ⟨0, by omega, rfl, rfl, H4⟩
  case round =>
    obtain ⟨q, hq, hgk, rfl, HS⟩ := hrel
    have HGK := Lib.hid hgk
    clear hgk H4
    by_cases hlt : q < m
    · have hl1 : (q : Int) < (n : Int) := by have := HM.out; omega
      have hl2 : (q : Int) < 40 := by have := HM.out; omega
      have wi : IntKind.i64.wrap ((q : Int) + 1) = (q : Int) + 1 := IntWalk.i64_in _ (by omega)
      obtain ⟨r, hr⟩ : ∃ r, L[q]? = some r := ⟨_, List.getElem?_eq_getElem (by have := HLEN.out; have := HM.out; omega)⟩
      obtain ⟨g2, o, rfl, hc⟩ := (HR.out.later HS.out.below).rc (by have := HM.out; omega)
      have C := hc q r hr
      have y0 := C.c0
      have y1 := C.c1
      have y2 := C.c2
      have y3 := C.c3
      have y4 := C.c4
      have y5 := C.c5
      have y6 := C.c6
      have hrk := HF.out r (List.mem_of_getElem? hr)
      have HC := Lib.hid (Re.lawcut_any r.l r.e r.k r.v r.d r.i r.a wr hrk.i hrk.a)
      have hfd : ∀ w : World, (Instr.field 44 (.agg #[.int .u64 r.l, .int .u32 r.e, .int .i64 r.k, .int .u64 r.v, .int .u64 r.d, .string (cut80 r.i), .string (cut80 r.a)]) 5).run Try.prog w = .ok (.string (cut80 r.i)) w := fun w => by kernel_rfl
      have HOT : Hid (∀ w9, Sp.Sep w w9 [XI g x, rowE u7 (els x L s q) q] → Calls Try.prog 16 #[.pointer (some ⟨g, 0, none⟩), .string (cut80 r.i), .int .i64 s] w9 fun e w' => e = .returned (.int .i64 (othX x (keyAt L q) s : Nat)) ∧ Below w9.heap.size w9 w') := Lib.hid (fun w9 h9 => by
        have q5 := HP.out.ot (cut80 r.i) s (Nat.le_trans (cut80_size r.i) (by decide)) HI.out h9 (k := 0) rfl HG.out
        have hk : keyAt L q = (cut80 r.i).toList := by unfold keyAt; rw [hr]; rfl
        rw [hk]
        exact q5)
      have HQM : Hid (q < 40) := Lib.hid (by omega)
      clear hc C hrk hr
      go_wp2_with (first
        | (go_at_call 15; refine HC.out.mono ?_; rintro e5 w5 ⟨rfl, hb5⟩; have H5 := Lib.hid (HS.out.later hb5); clear hb5)
        | (go_at_call 16; refine (HOT.out _ H5.out).mono ?_; rintro e6 w6 ⟨rfl, hb6⟩; have H6 := Lib.hid (H5.out.later hb6); clear hb6;
           obtain ⟨v7, w7, hap, S7⟩ := rows_pushS (k := 1) (cs := [.int .i64 (othX x (keyAt L q) s : Nat)]) H6.out rfl Try.underlying50 int_infos rfl (by decide) (by decide) (by have := HQM.out; omega) rfl (by intro u hu; simp only [List.mem_singleton] at hu; subst hu; rfl);
           have H7 := Lib.hid S7; clear S7)
        | (with_reducible refine wpList_append_run (w6.alloc (.cells #[.int .i64 (othX x (keyAt L q) s : Nat)] 3)) rfl (.tmp 38) (.tmp 48) 50 50 rfl u7 (.slice (some ⟨w6.heap.size, 0, none⟩) 1 1) rfl rfl v7 w7 hap ?_))
      go_roundg (m - (q + 1))
      case measure => have := HGK.out; omega
      case rel => exact ⟨q + 1, by omega, by have := HGK.out; omega, by go_num, by rw [els_succ]; exact H7⟩
    · obtain rfl : q = m := by omega
      have hqm := HM.out
      have hex : ¬ ((q : Int) < (n : Int)) ∨ ((q : Int) < (n : Int) ∧ ¬ ((q : Int) < 40)) := by omega
      clear hqm hlt hq HGK
      obtain ⟨A7, p7, rfl⟩ := rows_slice HS.out (k := 1) rfl
      rcases hex with hl5 | ⟨hl5, hl6⟩
      all_goals (
        go_upto_region 11 with fail
        go_loopg [8, 10] 4 (fun gk s8 s10 wr => ∃ (k : Nat), k ≤ 4 ∧ gk = 4 - k ∧ s8 = .int .i64 (takenN x s k : Nat) ∧ s10 = .int .i64 (k : Nat) ∧ Hid (Sp.Sep w wr [XI g x, rowE (.slice A7 q p7) (els x L s q) q]))
        case atStart => exact ⟨0, by omega, rfl, rfl, rfl, HS⟩
        case round =>
          obtain ⟨k, hk, hgk, rfl, rfl, HS2⟩ := hrel
          have HGK := Lib.hid hgk
          clear hgk HS
          by_cases hk4 : k < 4
          · have hl7 : (k : Int) < 4 := by omega
            have wi : IntKind.i64.wrap ((k : Int) + 1) = (k : Int) + 1 := IntWalk.i64_in _ (by omega)
            have wt : IntKind.i64.wrap ((takenN x s k : Nat) + 1 : Int) = (takenN x s k : Nat) + 1 := IntWalk.i64_in _ (by have := taken_le x s k; omega)
            have hat := HP.out.at' s (k : Int) HI.out (by unfold I64; omega) HS2.out (k := 0) rfl HG.out
            obtain ⟨z, hz⟩ : ∃ z, atV (atX x s (k : Int)) = z := ⟨_, rfl⟩
            rw [hz] at hat
            cases hb : (atX x s (k : Int)).isSome with
            | true =>
              rw [hb] at hat
              have HAT := Lib.hid hat
              have HT : Hid (takenN x s (k + 1) = takenN x s k + 1) := Lib.hid (by rw [takenN, hb]; rfl)
              clear hat hz hb
              go_wp2_with (go_at_call 12; refine HAT.out.mono ?_; rintro e5 w5 ⟨rfl, hb5⟩; have H5 := Lib.hid (HS2.out.later hb5); clear hb5)
              go_roundg (4 - (k + 1))
              case measure => have := HGK.out; omega
              case rel => exact ⟨k + 1, by omega, by have := HGK.out; omega, by rw [HT.out]; go_num, by go_num, H5⟩
            | false =>
              rw [hb] at hat
              have HAT := Lib.hid hat
              have HT : Hid (takenN x s (k + 1) = takenN x s k) := Lib.hid (by rw [takenN, hb]; rfl)
              clear hat hz hb
              go_wp2_with (go_at_call 12; refine HAT.out.mono ?_; rintro e5 w5 ⟨rfl, hb5⟩; have H5 := Lib.hid (HS2.out.later hb5); clear hb5)
              go_roundg (4 - (k + 1))
              case measure => have := HGK.out; omega
              case rel => exact ⟨k + 1, by omega, by have := HGK.out; omega, by rw [HT.out], by go_num, H5⟩
          · obtain rfl : k = 4 := by omega
            have hgo := HP.out.go s HI.out HS2.out (k := 0) rfl HG.out
            rw [gone_taken HG.out HLY.out s] at hgo
            have HGO := Lib.hid hgo
            obtain ⟨x', hx'⟩ : ∃ x', goneX x s = x' := ⟨_, rfl⟩
            have HG2 : Hid (Ix.Good x') := Lib.hid (by rw [← hx']; exact HG.out.gone s)
            have hno := gone_no x s
            rw [hx'] at hno
            have HNO := Lib.hid hno
            have HOT : Hid (∀ k, othX x' k (-1) = othX x k s) := Lib.hid (fun k => by rw [← hx']; exact gone_oth HLY.out s k)
            have HIN : Hid (∀ w9 J, Sp.Sep w w9 (XI g x' :: J) → Calls Try.prog 9 #[.pointer (some ⟨g, 0, none⟩), .int .i64 s] w9 fun e w' => e = .returned (.tuple #[.int .i64 0, .int .i64 0, .int .i64 0]) ∧ Below w9.heap.size w9 w') := Lib.hid (fun w9 J h9 => by
              have q5 := HP.out.in' s HI.out h9 (k := 0) rfl HG2.out
              rw [HNO.out.2.1, HNO.out.2.2.1, HNO.out.2.2.2.1] at q5
              exact q5)
            rw [hx'] at HGO
            generalize takenN x s 4 = TN at *
            clear hgo hx' hno HLY HG
            go_upto_region 19 with (first
              | (go_at_call 19; refine HGO.out.mono ?_; rintro e5 w5 ⟨rfl, h5⟩; have H5 : Hid (Sp.Sep w w5 [XI g x', rowE (.slice A7 q p7) (els x L s q) q]) := Lib.hid h5; clear h5)
              | (go_at_call 9; refine (HIN.out _ _ H5.out).mono ?_; rintro e6 w6 ⟨rfl, hb6⟩; have H6 := Lib.hid (H5.out.later hb6); clear hb6))
            clear HGO
            go_loopg [17] q (fun gk s17 wr => ∃ (i : Nat), i ≤ q ∧ gk = q - i ∧ s17 = .int .i64 (i : Nat) ∧ Hid (Sp.Sep w wr [XI g x', rowE (.slice A7 q p7) (els x L s q) q]))
            case atStart => exact ⟨0, by omega, rfl, rfl, H6⟩
            case round =>
              obtain ⟨i, hi, hgk, rfl, HS3⟩ := hrel
              have HGK3 := Lib.hid hgk
              clear hgk HS2 H6
              by_cases hiq : i < q
              · have hl8 : (i : Int) < (q : Int) := by omega
                have hl9 : (i : Int) < (n : Int) := by have := HM.out; omega
                have wi : IntKind.i64.wrap ((i : Int) + 1) = (i : Int) + 1 := IntWalk.i64_in _ (by have := HM.out; omega)
                have hat := HP.out.at' s ((i : Int) % 4) HI.out (by unfold I64; omega) HS3.out (k := 0) rfl HG2.out
                rw [HNO.out.1] at hat
                have HAT : Hid (Calls Try.prog 12 #[.pointer (some ⟨g, 0, none⟩), .agg #[.int .i64 s, .int .i64 ((i : Int) % 4)]] wr fun e w' => e = .returned (.tuple #[.string ⟨#[]⟩, .bool false]) ∧ Below wr.heap.size wr w') := Lib.hid hat
                obtain ⟨r, hr⟩ : ∃ r, L[i]? = some r := ⟨_, List.getElem?_eq_getElem (by have := HLEN.out; have := HM.out; omega)⟩
                have HRI := Lib.hid hr
                have HRK := Lib.hid (HF.out r (List.mem_of_getElem? hr))
                obtain ⟨g2, o, eA, _⟩ := (HR.out.later HS3.out.below).rc (by have := HM.out; omega)
                subst eA
                clear hat hr
                go_upto_region 22 with (first
                  | (go_at_call 12; refine HAT.out.mono ?_; rintro e8 w8 ⟨rfl, hb8⟩; have H8 := Lib.hid (HS3.out.later hb8); clear hb8))
                obtain ⟨ga, eG, hcg⟩ := rows_cell H8.out (k := 1) rfl (by omega)
                subst eG
                have hce : w8.cell? ⟨ga, i, none⟩ = some (.int .i64 (othX x (keyAt L i) s : Nat)) := by
                  rw [hcg i (by omega)]
                  exact els_get x L s hiq
                have HOI : Hid (∀ w9, Sp.Sep w w9 [XI g x', rowE (.slice (some ⟨ga, 0, none⟩) q p7) (els x L s q) q] → Calls Try.prog 16 #[.pointer (some ⟨g, 0, none⟩), .string (cut80 r.i), .int .i64 (-1)] w9 fun e w' => e = .returned (.int .i64 (othX x (keyAt L i) s : Nat)) ∧ Below w9.heap.size w9 w') := Lib.hid (fun w9 h9 => by
                  have q5 := HP.out.ot (cut80 r.i) (-1) (Nat.le_trans (cut80_size r.i) (by decide)) (by decide) h9 (k := 0) rfl HG2.out
                  have hk : keyAt L i = (cut80 r.i).toList := by unfold keyAt; rw [HRI.out]; rfl
                  rw [HOT.out] at q5
                  rw [hk]
                  exact q5)
                obtain ⟨E, hE⟩ : ∃ E, othX x (keyAt L i) s = E := ⟨_, rfl⟩
                rw [hE] at hce HOI
                have hcell : ∀ jj : In (fun X => Below w8.heap.size w8 X), RC jj.W g2 (o + i * 7) r := fun jj => by
                  obtain ⟨g4, o4, q4, hc4⟩ := (HR.out.later (H8.out.below.trans (jj.h.mono H8.out.below.size))).rc (by have := HM.out; omega)
                  injection q4 with q4
                  injection q4 with q41 q42 _
                  subst q41
                  subst q42
                  exact hc4 i r HRI.out
                have c0 : ∀ jj : In (fun X => Below w8.heap.size w8 X), jj.W.cell? ⟨g2, o + i * 7, none⟩ = some (.int .u64 r.l) := fun jj => (hcell jj).c0
                have c1 : ∀ jj : In (fun X => Below w8.heap.size w8 X), jj.W.cell? ⟨g2, o + i * 7 + 1, none⟩ = some (.int .u32 r.e) := fun jj => (hcell jj).c1
                have c2 : ∀ jj : In (fun X => Below w8.heap.size w8 X), jj.W.cell? ⟨g2, o + i * 7 + 2, none⟩ = some (.int .i64 r.k) := fun jj => (hcell jj).c2
                have c3 : ∀ jj : In (fun X => Below w8.heap.size w8 X), jj.W.cell? ⟨g2, o + i * 7 + 3, none⟩ = some (.int .u64 r.v) := fun jj => (hcell jj).c3
                have c4 : ∀ jj : In (fun X => Below w8.heap.size w8 X), jj.W.cell? ⟨g2, o + i * 7 + 4, none⟩ = some (.int .u64 r.d) := fun jj => (hcell jj).c4
                have c5 : ∀ jj : In (fun X => Below w8.heap.size w8 X), jj.W.cell? ⟨g2, o + i * 7 + 5, none⟩ = some (.string r.i) := fun jj => (hcell jj).c5
                have c6 : ∀ jj : In (fun X => Below w8.heap.size w8 X), jj.W.cell? ⟨g2, o + i * 7 + 6, none⟩ = some (.string r.a) := fun jj => (hcell jj).c6
                have ce : ∀ jj : In (fun X => Below w8.heap.size w8 X), jj.W.cell? ⟨ga, i, none⟩ = some (.int .i64 (E : Nat)) := fun jj => (jj.h.cell (World.block_lt_of_cell? _ _ hce)).trans hce
                have hfd : ∀ jj : In (fun X => Below w8.heap.size w8 X), (Instr.field 44 (.agg #[.int .u64 r.l, .int .u32 r.e, .int .i64 r.k, .int .u64 r.v, .int .u64 r.d, .string (cut80 r.i), .string (cut80 r.a)]) 5).run Try.prog jj.W = .ok (.string (cut80 r.i)) jj.W := fun jj => by kernel_rfl
                clear hcell hcg hce hE
                have I : Below w8.heap.size w8 { w8 with drawn := w8.drawn + 1 } := (Below.refl _ _).drew
                have hne : Nonempty (In (fun X => Below w8.heap.size w8 X)) := ⟨⟨_, I⟩⟩
                refine region_class (fun X => Below w8.heap.size w8 X) (by kernel_rfl) (by kernel_rfl) I ?_
                repeat (go_big_quiet_step (first
                  | (go_at_call 15; with_reducible exact class_call _ (fun hi => (Re.lawcut_any r.l r.e r.k r.v r.d r.i r.a _ HRK.out.i HRK.out.a).mono fun _ _ ⟨he, hb⟩ => ⟨he, hi.trans (hb.mono hi.size)⟩))
                  | (go_at_call 16; with_reducible exact class_call _ (fun hi => (HOI.out _ (H8.out.later hi)).mono fun _ _ ⟨he, hb⟩ => ⟨he, hi.trans (hb.mono hi.size)⟩))))
                refine wpQuiet_nil ?_
                rintro _ ⟨jj, rfl⟩
                have H12 := Lib.hid (H8.out.later jj.h)
                clear I hne c0 c1 c2 c3 c4 c5 c6 ce hfd
                generalize jj.W = X at *
                clear jj
                go_wp2_with fail
                go_roundg (q - (i + 1))
                case measure => have := HGK3.out; omega
                case rel => exact ⟨i + 1, by omega, by have := HGK3.out; omega, by go_num, H12⟩
              · obtain rfl : i = q := by omega
                have hgo := HP.out.go s HI.out HS3.out (k := 0) rfl HG2.out
                rw [HNO.out.2.2.2.2] at hgo
                have HGO := Lib.hid hgo
                have HFX := Lib.hid (fun w9 => fixed_any HP.out w9)
                clear hgo
                go_wp2_with (first
                  | (go_at_call 19; refine HGO.out.mono ?_; rintro e5 w5 ⟨rfl, h5⟩; have H5 := Lib.hid h5; clear h5)
                  | (go_at_call 14; refine (HFX.out _).mono ?_; rintro e9 w9 ⟨rfl, hb9⟩; have HB9 := Lib.hid (H5.out.below.trans (hb9.mono H5.out.below.size)); clear hb9))
                go_ret
                exact ⟨rfl, HB9.out⟩)

set_option maxRecDepth 100000 in
theorem lifted {XI : Nat → Idx → Sp.Item} (P : Prg XI) (os : Os) (started : os.Started) (H : Type) (enc : TypeId × Value → H) :
    ReturnsInHanded {} Try.checked os 6 .any (Rows.indexGoneSpec.pre6 enc Try.prog Try.f6 Rows.indexGoneRow.domain false) (Rows.indexGoneSpec.post enc Try.prog Try.f6 false true false false) := by
  refine returnsInHanded_of_change (C := Try.checked) own started (by kernel_rfl) Try.func6
    (ChangeSpec.witness6 (enc := enc) (C := Try.checked) false ⟨#[], #[.slice none 0 0, .int .u8 0], []⟩ 8 (by kernel_rfl) (by kernel_rfl) (by kernel_rfl) (by kernel_rfl)) ?_
  intro W base args ds gs before hval0 hW hcnd _
  have hval : ∀ (j : Nat) t v, Try.f6.params[j]? = some t → args[j]? = some v → Value.okWide Try.prog W .any base t v := hval0
  have hW' := hW
  obtain ⟨p, q, hA0, hV, rfl, hfz, hnd⟩ := hW
  have hA : DataW.TrodAll enc Try.prog W 0 (fun _ => true) true Try.f6.params.toList args.toList ds p := hA0
  rw [Try.params6] at hA hval
  obtain ⟨v0, vs0, d0, ds0, p0, q0, hargs, rfl, rfl, h0, r0⟩ := trodAll_cons hA
  obtain ⟨v1, vs1, d1, ds1, p1, q1, rfl, rfl, rfl, h1, r1⟩ := trodAll_cons r0
  obtain ⟨rfl, rfl, rfl⟩ := trodAll_nil r1
  obtain rfl : args = #[v0, v1] := by cases args; simp_all
  obtain ⟨rfl, rfl⟩ := trodVars_none hV
  obtain ⟨A0, n0, c0, L0, rfl, hn0, hL0, hf0⟩ := Re.open_recs (hval 0 22 v0 rfl rfl) h0
  obtain ⟨a1, rfl, rfl, rfl, w1⟩ := open_int Try.underlying5 (hval 1 5 v1 rfl rfl) h1
  clear hA0 hval0
  try simp only [List.append_nil] at hW'
  try simp only [List.nil_append] at hW'
  have hlt := fun x hx => hW'.lt x hx
  refine (walk P A0 n0 c0 L0 a1 W hL0 hn0 hf0 (by simp [Lit.wf] at w1; exact w1)).mono fun e W' ⟨he, hg⟩ => ?_
  subst he
  refine ⟨_, rfl, post_mem hW' (fun _ _ _ => (trodAll_cons_mk (shut_bool Try.underlying4 _) trodAll_mk0)) (fun sp hsp => ?_) (fun _ => rfl) hg (ok_one (by kernel_rfl) rfl (okWide_bool_mk Try.underlying4 _))⟩
  have hall := (trodAll_cons_mk (arg_same (sp := sp) laid (by kernel_rfl) (of_decide_eq_true (by kernel_rfl)) h0 hg (by intro x hx; simp_all) hlt hsp) (trodAll_cons_mk (arg_same (sp := sp) laid (by kernel_rfl) (of_decide_eq_true (by kernel_rfl)) h1 hg (by intro x hx; simp_all) hlt hsp) trodAll_mk0))
  try simp only [List.append_nil] at hall
  try simp only [List.nil_append] at hall
  exact hall

theorem over {XI : Nat → Idx → Sp.Item} (P : Prg XI) : Rows.indexGoneRow.holds Try.pinned (OpenSpec.ofChange Rows.indexGoneSpec) :=
  OpenClaim.holds_of_wide 6 Try.f6 rfl rfl rfl rfl rfl rfl rfl ⟨rfl, rfl, rfl, rfl, rfl⟩ rfl rfl rfl rfl rfl (by kernel_rfl) Try.func6 (by kernel_rfl)
    (of_decide_eq_true (by kernel_rfl)) (by unfold Func.isWrapper; first | (rw [if_pos (by decide +kernel)]; kernel_rfl) | (rw [if_neg (by decide +kernel)]; exact ⟨rfl, rfl⟩))
    (fun os started H enc _ => lifted P os started H enc)

end Go.Proofs.Ytjdkgkllgapgjaa.indexGone
