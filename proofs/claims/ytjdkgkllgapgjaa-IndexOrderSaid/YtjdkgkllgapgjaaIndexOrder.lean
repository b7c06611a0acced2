/- For all inputs the statement IndexOrder about index returns true, and changes nothing. Conditions: none. -/
import Derived.Test.YtjdkgkllgapgjaaJxS
import Derived.Test.YtjdkgkllgapgjaaClass
import Derived.Deep.RegionWith
import Derived.Test.YtjdkgkllgapgjaaJxO
import Derived.Test.YtjdkgkllgapgjaaMem
import Derived.ProofKit
import Derived.OpenShut
import Derived.ShutString
import Derived.SizedLaws
namespace Go.Proofs.Ytjdkgkllgapgjaa.indexOrder
open Go.ChangeShapes Go.WideShapes Go.ChangeAt Go.RowKit Go.Lib Go.MapKept
open Go.ChangeMaps (open_string shut_string)
set_option linter.unusedVariables false
set_option linter.unusedSimpArgs false

theorem own : ownKnob Try.prog.godebug = none := by kernel_rfl
theorem laid : laidOutB Try.prog = true := by kernel_rfl

set_option maxRecDepth 100000
open Ix Sp
open Re (Rec Key isL rcA RR RC cut80 cutR ROk)
def revs (m i : Nat) : List Nat := (List.range i).map fun j => m - 1 - j
theorem revs_succ (m i : Nat) : revs m (i + 1) = revs m i ++ [m - 1 - i] := by
  unfold revs
  rw [List.range_succ, List.map_append]
  rfl
theorem revs_mem {m i : Nat} : i ∈ List.range m ↔ i ∈ revs m m := by
  unfold revs
  rw [List.mem_range, List.mem_map]
  constructor
  · intro h
    exact ⟨m - 1 - i, List.mem_range.2 (by omega), by omega⟩
  · rintro ⟨j, hj, rfl⟩
    have := List.mem_range.1 hj
    omega
theorem revs_nodup (m : Nat) : (revs m m).Nodup := by
  unfold revs
  rw [List.Nodup, List.pairwise_map]
  refine List.Pairwise.imp_of_mem ?_ (List.nodup_range (n := m))
  intro a b ha hb hab e
  have h1 := List.mem_range.1 ha
  have h2 := List.mem_range.1 hb
  exact hab (by omega)
/-- No pair of one id and one version. -/
abbrev NP (a b : Rec) : Prop := ¬ ((cutR b).key = (cutR a).key ∧ b.v = a.v)
set_option maxHeartbeats 32000000 in
theorem walk {XI : Nat → Idx → Sp.Item} (P : Prg XI) (A : Option Addr) (n c : Nat) (L : List Rec) (w : World) (hR : RR w A n L) (hn : n ≤ maxLen) (hf : ∀ r ∈ L, ROk r) :
    Calls Try.prog 5 #[.slice A n c] w fun e w' => e = .returned (.bool true) ∧ Below w.heap.size w w' := by
  have HP := Lib.hid P
  have HR := Lib.hid hR
  have HF := Lib.hid hf
  have HLEN := Lib.hid hR.len
  obtain ⟨m, hm⟩ : ∃ m, min n 30 = m := ⟨_, rfl⟩
  have HM := Lib.hid hm
  have hmin : (min (n : Int) 30) = (m : Int) := by omega
  have HFX := Lib.hid (fun w9 => fixed_any P w9)
  have HN1 := Lib.hid (P.nw (Sp.Sep.nil (Below.refl w.heap.size w)))
  have HN2 : Hid (∀ w1 g1, Sp.Sep w w1 ([] ++ [XI g1 ⟨[], []⟩]) → Calls Try.prog 17 #[] w1 fun e w' => ∃ g2, e = .returned (.pointer (some ⟨g2, 0, none⟩)) ∧ Sp.Sep w w' [XI g1 ⟨[], []⟩, XI g2 ⟨[], []⟩]) := Lib.hid (fun w1 g1 h1 => P.nw h1)
  clear P hR hf hn hm
  go_enter Try.func5, Try.ntmps5
  have H0 : Hid True := Lib.hid trivial
  go_upto_region 2 with (first
    | (go_at_call 17; refine HN1.out.mono ?_; rintro e1 w1 ⟨g1, rfl, h1⟩; have H1 := Lib.hid h1; clear h1 HN1)
    | (go_at_call 17; refine (HN2.out _ _ H1.out).mono ?_; rintro e2 w2 ⟨g2, rfl, h2⟩; have H2 := Lib.hid h2; clear h2 HN2))
  go_upto_region 6 with fail
  clear hmin
  go_loopg [6] m (fun gk s6 wr => ∃ (q : Nat), q ≤ m ∧ gk = m - q ∧ s6 = .int .i64 (q : Nat) ∧ Hid (Sp.Sep w wr [XI g1 ⟨[], []⟩, XI g2 ⟨[], []⟩]) ∧ Hid (∀ i k a b, i < q → k < i → L[i]? = some a → L[k]? = some b → NP a b))
  case atStart => exact ⟨0, by omega, rfl, rfl, H2, Lib.hid (fun i k a b h => by omega)⟩
  case round =>
    obtain ⟨q, hq, hgk, rfl, HS, HDO⟩ := hrel
    have HGK := Lib.hid hgk
    clear hgk H2
    by_cases hlt : q < m
    · have hl1 : (q : Int) < (m : Int) := by omega
      have hqn : (q : Int) < (n : Int) := by have := HM.out; omega
      have wi : IntKind.i64.wrap ((q : Int) + 1) = (q : Int) + 1 := IntWalk.i64_in _ (by have := HM.out; omega)
      obtain ⟨a, ha⟩ : ∃ a, L[q]? = some a := ⟨_, List.getElem?_eq_getElem (by have := HLEN.out; have := HM.out; omega)⟩
      have HA := Lib.hid ha
      have HAO := Lib.hid (HF.out a (List.mem_of_getElem? ha))
      clear ha
      go_upto_region 9 with fail
      go_loopg [7] q (fun gk s7 wr => ∃ (k : Nat), k ≤ q ∧ gk = q - k ∧ s7 = .int .i64 (k : Nat) ∧ Hid (Sp.Sep w wr [XI g1 ⟨[], []⟩, XI g2 ⟨[], []⟩]) ∧ Hid (∀ k', k' < k → ∀ b, L[k']? = some b → NP a b))
      case atStart => exact ⟨0, by omega, rfl, rfl, HS, Lib.hid (fun k' h => by omega)⟩
      case round =>
        obtain ⟨k, hk, hgk, rfl, HS2, HD⟩ := hrel
        have HGK2 := Lib.hid hgk
        clear hgk HS
        by_cases hkq : k < q
        · have hl3 : (k : Int) < (q : Int) := by omega
          have hl4 : (k : Int) < (n : Int) := by omega
          have wi2 : IntKind.i64.wrap ((k : Int) + 1) = (k : Int) + 1 := IntWalk.i64_in _ (by have := HM.out; omega)
          obtain ⟨b, hb⟩ : ∃ b, L[k]? = some b := ⟨_, List.getElem?_eq_getElem (by have := HLEN.out; have := HM.out; omega)⟩
          have HBK := Lib.hid hb
          have HBO := Lib.hid (HF.out b (List.mem_of_getElem? hb))
          obtain ⟨g3, o, eA, _⟩ := (HR.out.later HS2.out.below).rc (by omega)
          subst eA
          have hcell : ∀ jj : In (fun X => Below wr.heap.size wr X), ∀ i r, L[i]? = some r → RC jj.W g3 (o + i * 7) r := fun jj i r hr => by
            obtain ⟨g4, o4, q4, hc4⟩ := (HR.out.later (HS2.out.below.trans (jj.h.mono HS2.out.below.size))).rc (by omega)
            injection q4 with q4
            injection q4 with q41 q42 _
            subst q41
            subst q42
            exact hc4 i r hr
          clear hb
          have c0 : ∀ jj : In (fun X => Below wr.heap.size wr X), jj.W.cell? ⟨g3, o + k * 7, none⟩ = some (.int .u64 b.l) := fun jj => (hcell jj k b HBK.out).c0
          have c1 : ∀ jj : In (fun X => Below wr.heap.size wr X), jj.W.cell? ⟨g3, o + k * 7 + 1, none⟩ = some (.int .u32 b.e) := fun jj => (hcell jj k b HBK.out).c1
          have c2 : ∀ jj : In (fun X => Below wr.heap.size wr X), jj.W.cell? ⟨g3, o + k * 7 + 2, none⟩ = some (.int .i64 b.k) := fun jj => (hcell jj k b HBK.out).c2
          have c3 : ∀ jj : In (fun X => Below wr.heap.size wr X), jj.W.cell? ⟨g3, o + k * 7 + 3, none⟩ = some (.int .u64 b.v) := fun jj => (hcell jj k b HBK.out).c3
          have c4 : ∀ jj : In (fun X => Below wr.heap.size wr X), jj.W.cell? ⟨g3, o + k * 7 + 4, none⟩ = some (.int .u64 b.d) := fun jj => (hcell jj k b HBK.out).c4
          have c5 : ∀ jj : In (fun X => Below wr.heap.size wr X), jj.W.cell? ⟨g3, o + k * 7 + 5, none⟩ = some (.string b.i) := fun jj => (hcell jj k b HBK.out).c5
          have c6 : ∀ jj : In (fun X => Below wr.heap.size wr X), jj.W.cell? ⟨g3, o + k * 7 + 6, none⟩ = some (.string b.a) := fun jj => (hcell jj k b HBK.out).c6
          have d0 : ∀ jj : In (fun X => Below wr.heap.size wr X), jj.W.cell? ⟨g3, o + q * 7, none⟩ = some (.int .u64 a.l) := fun jj => (hcell jj q a HA.out).c0
          have d1 : ∀ jj : In (fun X => Below wr.heap.size wr X), jj.W.cell? ⟨g3, o + q * 7 + 1, none⟩ = some (.int .u32 a.e) := fun jj => (hcell jj q a HA.out).c1
          have d2 : ∀ jj : In (fun X => Below wr.heap.size wr X), jj.W.cell? ⟨g3, o + q * 7 + 2, none⟩ = some (.int .i64 a.k) := fun jj => (hcell jj q a HA.out).c2
          have d3 : ∀ jj : In (fun X => Below wr.heap.size wr X), jj.W.cell? ⟨g3, o + q * 7 + 3, none⟩ = some (.int .u64 a.v) := fun jj => (hcell jj q a HA.out).c3
          have d4 : ∀ jj : In (fun X => Below wr.heap.size wr X), jj.W.cell? ⟨g3, o + q * 7 + 4, none⟩ = some (.int .u64 a.d) := fun jj => (hcell jj q a HA.out).c4
          have d5 : ∀ jj : In (fun X => Below wr.heap.size wr X), jj.W.cell? ⟨g3, o + q * 7 + 5, none⟩ = some (.string a.i) := fun jj => (hcell jj q a HA.out).c5
          have d6 : ∀ jj : In (fun X => Below wr.heap.size wr X), jj.W.cell? ⟨g3, o + q * 7 + 6, none⟩ = some (.string a.a) := fun jj => (hcell jj q a HA.out).c6
          have f1 : ∀ jj : In (fun X => Below wr.heap.size wr X), (Instr.field 44 (.agg #[.int .u64 b.l, .int .u32 b.e, .int .i64 b.k, .int .u64 b.v, .int .u64 b.d, .string (cut80 b.i), .string (cut80 b.a)]) 5).run Try.prog jj.W = .ok (.string (cut80 b.i)) jj.W := fun jj => by kernel_rfl
          have f2 : ∀ jj : In (fun X => Below wr.heap.size wr X), (Instr.field 44 (.agg #[.int .u64 a.l, .int .u32 a.e, .int .i64 a.k, .int .u64 a.v, .int .u64 a.d, .string (cut80 a.i), .string (cut80 a.a)]) 5).run Try.prog jj.W = .ok (.string (cut80 a.i)) jj.W := fun jj => by kernel_rfl
          clear hcell
          by_cases hkey : (cutR b).key = (cutR a).key
          · have hse : ((cut80 b.i).toList == (cut80 a.i).toList) = true := by
              have h1 : (cut80 b.i).toList = (cut80 a.i).toList := hkey
              rw [h1]; simp
            by_cases hv : b.v = a.v
            · have hve : (b.v == a.v) = true := by simp [hv]
              clear hkey hv
              go_upto_region 11 with fail
              have I : Below wr.heap.size wr { wr with drawn := wr.drawn + 1 } := (Below.refl _ _).drew
              have hne : Nonempty (In (fun X => Below wr.heap.size wr X)) := ⟨⟨_, I⟩⟩
              refine region_class (fun X => Below wr.heap.size wr X) (by kernel_rfl) (by kernel_rfl) I ?_
              repeat (go_big_quiet_step (first
                | (go_at_call 15; with_reducible exact class_call _ (fun hi => (Re.lawcut_any b.l b.e b.k b.v b.d b.i b.a _ HBO.out.i HBO.out.a).mono fun _ _ ⟨he, hb⟩ => ⟨he, hi.trans (hb.mono hi.size)⟩))
                | (go_at_call 15; with_reducible exact class_call _ (fun hi => (Re.lawcut_any a.l a.e a.k a.v a.d a.i a.a _ HAO.out.i HAO.out.a).mono fun _ _ ⟨he, hb⟩ => ⟨he, hi.trans (hb.mono hi.size)⟩))))
              refine wpQuiet_nil ?_
              rintro _ ⟨jj, rfl⟩
              have H12 := Lib.hid (HS2.out.later jj.h)
              clear I hne c0 c1 c2 c3 c4 c5 c6 d0 d1 d2 d3 d4 d5 d6 f1 f2
              generalize jj.W = X at *
              clear jj
              go_wp2_with (go_at_call 14; refine (HFX.out _).mono ?_; rintro e9 w9 ⟨rfl, hb9⟩; have HB9 := Lib.hid (H12.out.below.trans (hb9.mono H12.out.below.size)); clear hb9)
              go_ret
              exact ⟨rfl, HB9.out⟩
            · have hve : (b.v == a.v) = false := by simp [hv]
              have HNP : Hid (NP a b) := Lib.hid (fun h => hv h.2)
              clear hkey hv
              go_upto_region 11 with fail
              have I : Below wr.heap.size wr { wr with drawn := wr.drawn + 1 } := (Below.refl _ _).drew
              have hne : Nonempty (In (fun X => Below wr.heap.size wr X)) := ⟨⟨_, I⟩⟩
              refine region_class (fun X => Below wr.heap.size wr X) (by kernel_rfl) (by kernel_rfl) I ?_
              repeat (go_big_quiet_step (first
                | (go_at_call 15; with_reducible exact class_call _ (fun hi => (Re.lawcut_any b.l b.e b.k b.v b.d b.i b.a _ HBO.out.i HBO.out.a).mono fun _ _ ⟨he, hb⟩ => ⟨he, hi.trans (hb.mono hi.size)⟩))
                | (go_at_call 15; with_reducible exact class_call _ (fun hi => (Re.lawcut_any a.l a.e a.k a.v a.d a.i a.a _ HAO.out.i HAO.out.a).mono fun _ _ ⟨he, hb⟩ => ⟨he, hi.trans (hb.mono hi.size)⟩))))
              refine wpQuiet_nil ?_
              rintro _ ⟨jj, rfl⟩
              have H12 := Lib.hid (HS2.out.later jj.h)
              clear I hne c0 c1 c2 c3 c4 c5 c6 d0 d1 d2 d3 d4 d5 d6 f1 f2
              generalize jj.W = X at *
              clear jj
              go_wp2_with fail
              go_roundg (q - (k + 1))
              case measure => have := HGK2.out; omega
              case rel => exact ⟨k + 1, by omega, by have := HGK2.out; omega, by go_num, H12, Lib.hid (fun k' hk' d hd => by
                rcases Nat.lt_or_ge k' k with h5 | h5
                · exact HD.out k' h5 d hd
                · have e5 : k' = k := by omega
                  subst e5
                  have e6 := hd.symm.trans HBK.out
                  injection e6 with e6
                  subst e6
                  exact HNP.out)⟩
          · have hse : ((cut80 b.i).toList == (cut80 a.i).toList) = false := by
              rw [Bool.eq_false_iff]
              intro h1
              exact hkey (show (cut80 b.i).toList = (cut80 a.i).toList by simpa using h1)
            have HNP : Hid (NP a b) := Lib.hid (fun h => hkey h.1)
            clear hkey
            go_upto_region 11 with fail
            have I : Below wr.heap.size wr { wr with drawn := wr.drawn + 1 } := (Below.refl _ _).drew
            have hne : Nonempty (In (fun X => Below wr.heap.size wr X)) := ⟨⟨_, I⟩⟩
            refine region_class (fun X => Below wr.heap.size wr X) (by kernel_rfl) (by kernel_rfl) I ?_
            repeat (go_big_quiet_step (first
              | (go_at_call 15; with_reducible exact class_call _ (fun hi => (Re.lawcut_any b.l b.e b.k b.v b.d b.i b.a _ HBO.out.i HBO.out.a).mono fun _ _ ⟨he, hb⟩ => ⟨he, hi.trans (hb.mono hi.size)⟩))
              | (go_at_call 15; with_reducible exact class_call _ (fun hi => (Re.lawcut_any a.l a.e a.k a.v a.d a.i a.a _ HAO.out.i HAO.out.a).mono fun _ _ ⟨he, hb⟩ => ⟨he, hi.trans (hb.mono hi.size)⟩))))
            refine wpQuiet_nil ?_
            rintro _ ⟨jj, rfl⟩
            have H12 := Lib.hid (HS2.out.later jj.h)
            clear I hne c0 c1 c2 c3 c4 c5 c6 d0 d1 d2 d3 d4 d5 d6 f1 f2
            generalize jj.W = X at *
            clear jj
            go_wp2_with fail
            go_roundg (q - (k + 1))
            case measure => have := HGK2.out; omega
            case rel => exact ⟨k + 1, by omega, by have := HGK2.out; omega, by go_num, H12, Lib.hid (fun k' hk' d hd => by
              rcases Nat.lt_or_ge k' k with h5 | h5
              · exact HD.out k' h5 d hd
              · have e5 : k' = k := by omega
                subst e5
                have e6 := hd.symm.trans HBK.out
                injection e6 with e6
                subst e6
                exact HNP.out)⟩
        · obtain rfl : k = q := by omega
          have hl3 : ¬ ((k : Int) < (k : Int)) := by omega
          have HDN : Hid (∀ i k' a b, i < k + 1 → k' < i → L[i]? = some a → L[k']? = some b → NP a b) := Lib.hid (fun i k' a' b hi hk' ha' hb' => by
            rcases Nat.lt_or_ge i k with h5 | h5
            · exact HDO.out i k' a' b h5 hk' ha' hb'
            · have e5 : i = k := by omega
              subst e5
              have e6 := ha'.symm.trans HA.out
              injection e6 with e6
              subst e6
              exact HD.out k' hk' b hb')
          go_wp2_with fail
          go_roundg (m - (k + 1))
          case measure => have := HGK.out; omega
          case rel => exact ⟨k + 1, by omega, by have := HGK.out; omega, by go_num, HS2, HDN⟩
    · obtain rfl : q = m := by omega
      have hl1 : ¬ ((q : Int) < (q : Int)) := by omega
      have hq30 : q ≤ 30 := by have := HM.out; omega
      have HQ30 := Lib.hid hq30
      have hqn : q ≤ n := by have := HM.out; omega
      have HQN := Lib.hid hqn
      have hdis : ∀ i ∈ List.range q, ∀ j ∈ List.range q, i ≠ j → ∀ a b, L[i]? = some a → L[j]? = some b → (cutR a).key = (cutR b).key → a.v ≠ b.v := fun i hi j hj hij a b ha hb hk hv => by
        have h1 := List.mem_range.1 hi
        have h2 := List.mem_range.1 hj
        rcases Nat.lt_or_ge i j with h5 | h5
        · exact HDO.out j i b a h2 h5 hb ha ⟨hk, hv⟩
        · exact HDO.out i j a b h1 (by omega) ha hb ⟨hk.symm, hv.symm⟩
      have HSAME : Hid (∀ k, fndX (addsN L (List.range q)) k = fndX (addsN L (revs q q)) k) := Lib.hid (adds_same HF.out (by rw [List.length_range]; omega) (by unfold revs; rw [List.length_map, List.length_range]; omega) List.nodup_range (revs_nodup q) (fun i => revs_mem) hdis)
      have HGX : Hid (∀ i, i ≤ q → Ix.Good (addsN L (List.range i)) ∧ Ix.Good (addsN L (revs q i)) ∧ (addsN L (List.range i)).S.length ≤ i ∧ (addsN L (revs q i)).S.length ≤ i) := Lib.hid (fun i hi => by
        have e1 : (List.range i).length = i := List.length_range
        have e2 : (revs q i).length = i := by unfold revs; rw [List.length_map, List.length_range]
        refine ⟨adds_good HF.out _ (by omega), adds_good HF.out _ (by omega), ?_, ?_⟩
        · have := adds_len L (List.range i); omega
        · have := adds_len L (revs q i); omega)
      clear hq30 hqn hdis hlt hq HGK HDO HM
      go_upto_region 14 with fail
      go_loopg [8] q (fun gk s8 wr => ∃ (i : Nat), i ≤ q ∧ gk = q - i ∧ s8 = .int .i64 (i : Nat) ∧ Hid (Sp.Sep w wr [XI g1 (addsN L (List.range i)), XI g2 (addsN L (revs q i))]))
      case atStart => exact ⟨0, by omega, rfl, rfl, HS⟩
      case round =>
        obtain ⟨i, hi, hgk, rfl, HS2⟩ := hrel
        have HGK := Lib.hid hgk
        clear hgk HS
        by_cases hiq : i < q
        · have hl2 : (i : Int) < (q : Int) := by omega
          have hl3 : (i : Int) < (n : Int) := by have := HQN.out; omega
          obtain ⟨k, hk⟩ : ∃ k, k + i + 1 = q := ⟨q - 1 - i, by omega⟩
          have hl4 : (k : Int) < (n : Int) := by have := HQN.out; omega
          have wi : IntKind.i64.wrap ((i : Int) + 1) = (i : Int) + 1 := IntWalk.i64_in _ (by have := HQ30.out; omega)
          have wq : IntKind.i64.wrap ((q : Int) - 1) = (q : Int) - 1 := IntWalk.i64_in _ (by have := HQ30.out; omega)
          have wk : IntKind.i64.wrap ((q : Int) - 1 - (i : Int)) = (k : Int) := by rw [IntWalk.i64_in _ (by have := HQ30.out; omega)]; omega
          obtain ⟨a, ha⟩ : ∃ a, L[i]? = some a := ⟨_, List.getElem?_eq_getElem (by have := HLEN.out; have := HQN.out; omega)⟩
          obtain ⟨b, hb⟩ : ∃ b, L[k]? = some b := ⟨_, List.getElem?_eq_getElem (by have := HLEN.out; have := HQN.out; omega)⟩
          have HA := Lib.hid ha
          have HB := Lib.hid hb
          have HAO := Lib.hid (HF.out a (List.mem_of_getElem? ha))
          have HBO := Lib.hid (HF.out b (List.mem_of_getElem? hb))
          obtain ⟨g3, o, eA, _⟩ := (HR.out.later HS2.out.below).rc (by omega)
          subst eA
          have HCELL : Hid (∀ X, Below w.heap.size w X → ∀ i r, L[i]? = some r → RC X g3 (o + i * 7) r) := Lib.hid (fun X hX i r hr => by
            obtain ⟨g4, o4, q4, hc4⟩ := (HR.out.later hX).rc (by omega)
            injection q4 with q4
            injection q4 with q41 q42 _
            subst q41
            subst q42
            exact hc4 i r hr)
          have hkq : q - 1 - i = k := by omega
          have HAD1 : Hid (∀ w5, Sp.Sep w w5 [XI g1 (addsN L (List.range i)), XI g2 (addsN L (revs q i))] → Calls Try.prog 18 #[.pointer (some ⟨g1, 0, none⟩), .agg #[.int .u64 a.l, .int .u32 a.e, .int .i64 a.k, .int .u64 a.v, .int .u64 a.d, .string (cut80 a.i), .string (cut80 a.a)], .agg #[.int .i64 ((i : Int) / 4), .int .i64 ((i : Int) % 4)]] w5 fun e w' => (∃ bb, e = .returned (.bool bb)) ∧ Sp.Sep w w' [XI g1 (addsN L (List.range (i + 1))), XI g2 (addsN L (revs q i))]) := Lib.hid (fun w5 h5 => by
            have hg := HGX.out i hi
            refine (HP.out.ad (cutR a) ((i : Int) / 4) ((i : Int) % 4) (by omega) (by omega) (by have := HQ30.out; unfold I64; omega) (by unfold I64; omega) h5 (k := 0) rfl hg.1 ⟨HAO.out.v, HAO.out.d, cut80_size a.i, cut80_size a.a⟩ (by have := HQ30.out; omega)).mono ?_
            rintro e w' ⟨rfl, h6⟩
            refine ⟨⟨_, rfl⟩, ?_⟩
            rw [List.range_succ, adds_succ]
            unfold stepN
            rw [HA.out]
            exact h6)
          have HAD2 : Hid (∀ w5, Sp.Sep w w5 [XI g1 (addsN L (List.range (i + 1))), XI g2 (addsN L (revs q i))] → Calls Try.prog 18 #[.pointer (some ⟨g2, 0, none⟩), .agg #[.int .u64 b.l, .int .u32 b.e, .int .i64 b.k, .int .u64 b.v, .int .u64 b.d, .string (cut80 b.i), .string (cut80 b.a)], .agg #[.int .i64 ((k : Int) / 4), .int .i64 ((k : Int) % 4)]] w5 fun e w' => (∃ bb, e = .returned (.bool bb)) ∧ Sp.Sep w w' [XI g1 (addsN L (List.range (i + 1))), XI g2 (addsN L (revs q (i + 1)))]) := Lib.hid (fun w5 h5 => by
            have hg := HGX.out i hi
            refine (HP.out.ad (cutR b) ((k : Int) / 4) ((k : Int) % 4) (by omega) (by omega) (by have := HQ30.out; unfold I64; omega) (by unfold I64; omega) h5 (k := 1) rfl hg.2.1 ⟨HBO.out.v, HBO.out.d, cut80_size b.i, cut80_size b.a⟩ (by have := HQ30.out; omega)).mono ?_
            rintro e w' ⟨rfl, h6⟩
            refine ⟨⟨_, rfl⟩, ?_⟩
            rw [revs_succ, adds_succ, hkq]
            unfold stepN
            rw [HB.out]
            exact h6)
          have c0 : wr.cell? ⟨g3, o + i * 7, none⟩ = some (.int .u64 a.l) := (HCELL.out wr HS2.out.below i a HA.out).c0
          have c1 : wr.cell? ⟨g3, o + i * 7 + 1, none⟩ = some (.int .u32 a.e) := (HCELL.out wr HS2.out.below i a HA.out).c1
          have c2 : wr.cell? ⟨g3, o + i * 7 + 2, none⟩ = some (.int .i64 a.k) := (HCELL.out wr HS2.out.below i a HA.out).c2
          have c3 : wr.cell? ⟨g3, o + i * 7 + 3, none⟩ = some (.int .u64 a.v) := (HCELL.out wr HS2.out.below i a HA.out).c3
          have c4 : wr.cell? ⟨g3, o + i * 7 + 4, none⟩ = some (.int .u64 a.d) := (HCELL.out wr HS2.out.below i a HA.out).c4
          have c5 : wr.cell? ⟨g3, o + i * 7 + 5, none⟩ = some (.string a.i) := (HCELL.out wr HS2.out.below i a HA.out).c5
          have c6 : wr.cell? ⟨g3, o + i * 7 + 6, none⟩ = some (.string a.a) := (HCELL.out wr HS2.out.below i a HA.out).c6
          have HC := Lib.hid (fun X => Re.lawcut_any a.l a.e a.k a.v a.d a.i a.a X HAO.out.i HAO.out.a)
          have HC2 := Lib.hid (fun X => Re.lawcut_any b.l b.e b.k b.v b.d b.i b.a X HBO.out.i HBO.out.a)
          have hi30 : (i : Int) < 30 := by have := HQ30.out; omega
          have hk30 : (k : Int) < 30 := by have := HQ30.out; omega
          clear ha hb hk hkq
          go_upto_region 18 with (first
            | (go_at_call 15; refine (HC.out _).mono ?_; rintro e5 w5 ⟨rfl, hb5⟩; have H5 := Lib.hid (HS2.out.later hb5); clear hb5)
            | (go_at_call 18; refine (HAD1.out _ H5.out).mono ?_; rintro e6 w6 ⟨⟨b6, rfl⟩, h6⟩; have H6 := Lib.hid h6; clear h6))
          clear c0 c1 c2 c3 c4 c5 c6
          have c0 : w6.cell? ⟨g3, o + k * 7, none⟩ = some (.int .u64 b.l) := (HCELL.out w6 H6.out.below k b HB.out).c0
          have c1 : w6.cell? ⟨g3, o + k * 7 + 1, none⟩ = some (.int .u32 b.e) := (HCELL.out w6 H6.out.below k b HB.out).c1
          have c2 : w6.cell? ⟨g3, o + k * 7 + 2, none⟩ = some (.int .i64 b.k) := (HCELL.out w6 H6.out.below k b HB.out).c2
          have c3 : w6.cell? ⟨g3, o + k * 7 + 3, none⟩ = some (.int .u64 b.v) := (HCELL.out w6 H6.out.below k b HB.out).c3
          have c4 : w6.cell? ⟨g3, o + k * 7 + 4, none⟩ = some (.int .u64 b.d) := (HCELL.out w6 H6.out.below k b HB.out).c4
          have c5 : w6.cell? ⟨g3, o + k * 7 + 5, none⟩ = some (.string b.i) := (HCELL.out w6 H6.out.below k b HB.out).c5
          have c6 : w6.cell? ⟨g3, o + k * 7 + 6, none⟩ = some (.string b.a) := (HCELL.out w6 H6.out.below k b HB.out).c6
          go_wp2_with (first
            | (go_at_call 15; refine (HC2.out _).mono ?_; rintro e7 w7 ⟨rfl, hb7⟩; have H7 := Lib.hid (H6.out.later hb7); clear hb7)
            | (go_at_call 18; refine (HAD2.out _ H7.out).mono ?_; rintro e8 w8 ⟨⟨b8, rfl⟩, h8⟩; have H8 := Lib.hid h8; clear h8))
          go_roundg (q - (i + 1))
          case measure => have := HGK.out; omega
          case rel => exact ⟨i + 1, by omega, by have := HGK.out; omega, by go_num, H8⟩
        · obtain rfl : i = q := by omega
          have hl2 : ¬ ((i : Int) < (i : Int)) := by omega
          have hgg := HGX.out i (Nat.le_refl _)
          have HGA := Lib.hid hgg.1
          have HGB := Lib.hid hgg.2.1
          obtain ⟨x, hx⟩ : ∃ x, addsN L (List.range i) = x := ⟨_, rfl⟩
          obtain ⟨y, hy⟩ : ∃ y, addsN L (revs i i) = y := ⟨_, rfl⟩
          rw [hx, hy] at HS2 HSAME
          rw [hx] at HGA
          rw [hy] at HGB
          have HLV : Hid ((idsX x).length = (idsX y).length) := Lib.hid (by
            have hLL : x.L = y.L := list_same HGA.out.o HGB.out.o (fun k => by
              have q1 : fndX ⟨[], x.L⟩ k = fndX x k := rfl
              have q2 : fndX ⟨[], y.L⟩ k = fndX y k := rfl
              rw [q1, q2]
              exact HSAME.out k)
            unfold idsX
            rw [hLL])
          clear hgg hx hy HGX HGK
          go_upto_region 20 with fail
          go_loopg [10] i (fun gk s10 wr => ∃ (j : Nat), j ≤ i ∧ gk = i - j ∧ s10 = .int .i64 (j : Nat) ∧ Hid (Sp.Sep w wr [XI g1 x, XI g2 y]))
          case atStart => exact ⟨0, by omega, rfl, rfl, HS2⟩
          case round =>
            obtain ⟨j, hj, hgk, rfl, HS3⟩ := hrel
            have HGK := Lib.hid hgk
            clear hgk HS2
            by_cases hji : j < i
            · have hl5 : (j : Int) < (i : Int) := by omega
              have hl6 : (j : Int) < (n : Int) := by have := HQN.out; omega
              have wi : IntKind.i64.wrap ((j : Int) + 1) = (j : Int) + 1 := IntWalk.i64_in _ (by have := HQ30.out; omega)
              obtain ⟨a, ha⟩ : ∃ a, L[j]? = some a := ⟨_, List.getElem?_eq_getElem (by have := HLEN.out; have := HQN.out; omega)⟩
              have HA := Lib.hid ha
              have HAO := Lib.hid (HF.out a (List.mem_of_getElem? ha))
              obtain ⟨g3, o, eA, _⟩ := (HR.out.later HS3.out.below).rc (by omega)
              subst eA
              have HCELL : Hid (∀ X, Below w.heap.size w X → ∀ i r, L[i]? = some r → RC X g3 (o + i * 7) r) := Lib.hid (fun X hX i r hr => by
                obtain ⟨g4, o4, q4, hc4⟩ := (HR.out.later hX).rc (by omega)
                injection q4 with q4
                injection q4 with q41 q42 _
                subst q41
                subst q42
                exact hc4 i r hr)
              have HC := Lib.hid (fun X => Re.lawcut_any a.l a.e a.k a.v a.d a.i a.a X HAO.out.i HAO.out.a)
              have hfd : ∀ X : World, (Instr.field 44 (.agg #[.int .u64 a.l, .int .u32 a.e, .int .i64 a.k, .int .u64 a.v, .int .u64 a.d, .string (cut80 a.i), .string (cut80 a.a)]) 5).run Try.prog X = .ok (.string (cut80 a.i)) X := fun X => by kernel_rfl
              obtain ⟨v0, v1, v2, v3, v4, v5, hE⟩ : ∃ v0 v1 v2 v3 v4 v5, enO (fndX x (cut80 a.i).toList) = #[.int .u64 v0, .int .u64 v1, .bool v2, .int .i64 v3, .int .i64 v4, .int .i64 v5] := by
                cases fndX x (cut80 a.i).toList with
                | none => exact ⟨_, _, _, _, _, _, rfl⟩
                | some z => exact ⟨_, _, _, _, _, _, rfl⟩
              obtain ⟨Bv, hB⟩ : ∃ Bv, (fndX x (cut80 a.i).toList).isSome = Bv := ⟨_, rfl⟩
              have HNX : Hid (∀ w5 J, Sp.Sep w w5 (XI g1 x :: J) → Calls Try.prog 11 #[.pointer (some ⟨g1, 0, none⟩), .string (cut80 a.i)] w5 fun e w' => e = .returned (.tuple #[.agg #[.int .u64 v0, .int .u64 v1, .bool v2, .int .i64 v3, .int .i64 v4, .int .i64 v5], .bool Bv]) ∧ Below w5.heap.size w5 w') := Lib.hid (fun w5 J h5 => by
                have q5 := HP.out.ne (cut80 a.i) (Nat.le_trans (cut80_size a.i) (by decide)) h5 (k := 0) rfl HGA.out
                rw [hE, hB] at q5
                exact q5)
              have HNY : Hid (∀ w5 J, Sp.Sep w w5 (XI g1 x :: XI g2 y :: J) → Calls Try.prog 11 #[.pointer (some ⟨g2, 0, none⟩), .string (cut80 a.i)] w5 fun e w' => e = .returned (.tuple #[.agg #[.int .u64 v0, .int .u64 v1, .bool v2, .int .i64 v3, .int .i64 v4, .int .i64 v5], .bool Bv]) ∧ Below w5.heap.size w5 w') := Lib.hid (fun w5 J h5 => by
                have q5 := HP.out.ne (cut80 a.i) (Nat.le_trans (cut80_size a.i) (by decide)) h5 (k := 1) rfl HGB.out
                rw [← HSAME.out, hE, hB] at q5
                exact q5)
              have c0 : wr.cell? ⟨g3, o + j * 7, none⟩ = some (.int .u64 a.l) := (HCELL.out wr HS3.out.below j a HA.out).c0
              have c1 : wr.cell? ⟨g3, o + j * 7 + 1, none⟩ = some (.int .u32 a.e) := (HCELL.out wr HS3.out.below j a HA.out).c1
              have c2 : wr.cell? ⟨g3, o + j * 7 + 2, none⟩ = some (.int .i64 a.k) := (HCELL.out wr HS3.out.below j a HA.out).c2
              have c3 : wr.cell? ⟨g3, o + j * 7 + 3, none⟩ = some (.int .u64 a.v) := (HCELL.out wr HS3.out.below j a HA.out).c3
              have c4 : wr.cell? ⟨g3, o + j * 7 + 4, none⟩ = some (.int .u64 a.d) := (HCELL.out wr HS3.out.below j a HA.out).c4
              have c5 : wr.cell? ⟨g3, o + j * 7 + 5, none⟩ = some (.string a.i) := (HCELL.out wr HS3.out.below j a HA.out).c5
              have c6 : wr.cell? ⟨g3, o + j * 7 + 6, none⟩ = some (.string a.a) := (HCELL.out wr HS3.out.below j a HA.out).c6
              clear ha hE hB
              go_upto_region 23 with (first
                | (go_at_call 15; refine (HC.out _).mono ?_; rintro e5 w5 ⟨rfl, hb5⟩; have H5 := Lib.hid (HS3.out.later hb5); clear hb5)
                | (go_at_call 11; refine (HNX.out _ _ H5.out).mono ?_; rintro e6 w6 ⟨rfl, hb6⟩; have H6 := Lib.hid (H5.out.later hb6); clear hb6))
              clear c0 c1 c2 c3 c4 c5 c6
              have h7 := loc_alloc H6.out 34 #[.int .u64 v0, .int .u64 v1, .bool v2, .int .i64 v3, .int .i64 v4, .int .i64 v5]
              obtain ⟨ne, hne⟩ : ∃ ne, w6.heap.size = ne := ⟨_, rfl⟩
              rw [hne] at h7
              rw [hne]
              have H7 := Lib.hid h7
              clear h7 hne
              generalize w6.alloc (.cells #[.int .u64 v0, .int .u64 v1, .bool v2, .int .i64 v3, .int .i64 v4, .int .i64 v5] 34) = w7 at *
              have c0 : w7.cell? ⟨g3, o + j * 7, none⟩ = some (.int .u64 a.l) := (HCELL.out w7 H7.out.below j a HA.out).c0
              have c1 : w7.cell? ⟨g3, o + j * 7 + 1, none⟩ = some (.int .u32 a.e) := (HCELL.out w7 H7.out.below j a HA.out).c1
              have c2 : w7.cell? ⟨g3, o + j * 7 + 2, none⟩ = some (.int .i64 a.k) := (HCELL.out w7 H7.out.below j a HA.out).c2
              have c3 : w7.cell? ⟨g3, o + j * 7 + 3, none⟩ = some (.int .u64 a.v) := (HCELL.out w7 H7.out.below j a HA.out).c3
              have c4 : w7.cell? ⟨g3, o + j * 7 + 4, none⟩ = some (.int .u64 a.d) := (HCELL.out w7 H7.out.below j a HA.out).c4
              have c5 : w7.cell? ⟨g3, o + j * 7 + 5, none⟩ = some (.string a.i) := (HCELL.out w7 H7.out.below j a HA.out).c5
              have c6 : w7.cell? ⟨g3, o + j * 7 + 6, none⟩ = some (.string a.a) := (HCELL.out w7 H7.out.below j a HA.out).c6
              go_upto_region 24 with (first
                | (go_at_call 15; refine (HC.out _).mono ?_; rintro e8 w8 ⟨rfl, hb8⟩; have H8 := Lib.hid (H7.out.later hb8); clear hb8)
                | (go_at_call 11; refine (HNY.out _ _ H8.out).mono ?_; rintro e9 w9 ⟨rfl, hb9⟩; have H9 := Lib.hid (H8.out.later hb9); clear hb9))
              clear c0 c1 c2 c3 c4 c5 c6
              have h10 := loc_alloc H9.out 34 #[.int .u64 v0, .int .u64 v1, .bool v2, .int .i64 v3, .int .i64 v4, .int .i64 v5]
              obtain ⟨nf, hnf⟩ : ∃ nf, w9.heap.size = nf := ⟨_, rfl⟩
              rw [hnf] at h10
              rw [hnf]
              have H10 := Lib.hid h10
              clear h10 hnf
              generalize w9.alloc (.cells #[.int .u64 v0, .int .u64 v1, .bool v2, .int .i64 v3, .int .i64 v4, .int .i64 v5] 34) = w10 at *
              have d0 : w10.cell? ⟨ne, 0, none⟩ = some (.int .u64 v0) := (loc_blk H10.out (k := 2) rfl).cell 0
              have d1 : w10.cell? ⟨ne, 1, none⟩ = some (.int .u64 v1) := (loc_blk H10.out (k := 2) rfl).cell 1
              have d2 : w10.cell? ⟨ne, 2, none⟩ = some (.bool v2) := (loc_blk H10.out (k := 2) rfl).cell 2
              have d3 : w10.cell? ⟨ne, 3, none⟩ = some (.int .i64 v3) := (loc_blk H10.out (k := 2) rfl).cell 3
              have d4 : w10.cell? ⟨ne, 4, none⟩ = some (.int .i64 v4) := (loc_blk H10.out (k := 2) rfl).cell 4
              have d5 : w10.cell? ⟨ne, 5, none⟩ = some (.int .i64 v5) := (loc_blk H10.out (k := 2) rfl).cell 5
              have e0 : w10.cell? ⟨nf, 0, none⟩ = some (.int .u64 v0) := (loc_blk H10.out (k := 3) rfl).cell 0
              have e1 : w10.cell? ⟨nf, 1, none⟩ = some (.int .u64 v1) := (loc_blk H10.out (k := 3) rfl).cell 1
              have e2 : w10.cell? ⟨nf, 2, none⟩ = some (.bool v2) := (loc_blk H10.out (k := 3) rfl).cell 2
              have e3 : w10.cell? ⟨nf, 3, none⟩ = some (.int .i64 v3) := (loc_blk H10.out (k := 3) rfl).cell 3
              have e4 : w10.cell? ⟨nf, 4, none⟩ = some (.int .i64 v4) := (loc_blk H10.out (k := 3) rfl).cell 4
              have e5 : w10.cell? ⟨nf, 5, none⟩ = some (.int .i64 v5) := (loc_blk H10.out (k := 3) rfl).cell 5
              have H11 : Hid (Sp.Sep w w10 [XI g1 x, XI g2 y]) := Lib.hid (loc_drop (items := [XI g1 x, XI g2 y]) (loc_drop (items := [XI g1 x, XI g2 y, locI [(ne, 34, #[.int .u64 v0, .int .u64 v1, .bool v2, .int .i64 v3, .int .i64 v4, .int .i64 v5])]]) H10.out))
              go_wp2_with fail
              go_roundg (i - (j + 1))
              case measure => have := HGK.out; omega
              case rel => exact ⟨j + 1, by omega, by have := HGK.out; omega, by go_num, H11⟩
            · obtain rfl : j = i := by omega
              have hl5 : ¬ ((j : Int) < (j : Int)) := by omega
              have hx1 := HP.out.lv HS3.out (k := 0) rfl HGA.out
              rw [HLV.out] at hx1
              have HX1 := Lib.hid hx1
              have HX2 : Hid (∀ w5, Sp.Sep w w5 [XI g1 x, XI g2 y] → Calls Try.prog 13 #[.pointer (some ⟨g2, 0, none⟩)] w5 fun e w' => e = .returned (.int .i64 ((idsX y).length : Nat)) ∧ Below w5.heap.size w5 w') := Lib.hid (fun w5 h5 => HP.out.lv h5 (k := 1) rfl HGB.out)
              clear hx1
              go_wp2_with (first
                | (go_at_call 13; refine HX1.out.mono ?_; rintro e5 w5 ⟨rfl, hb5⟩; have H5 := Lib.hid (HS3.out.later hb5); clear hb5 HX1)
                | (go_at_call 13; refine (HX2.out _ H5.out).mono ?_; rintro e6 w6 ⟨rfl, hb6⟩; have H6 := Lib.hid (H5.out.later hb6); clear hb6)
                | (go_at_call 14; refine (HFX.out _).mono ?_; rintro e9 w9 ⟨rfl, hb9⟩; have HB9 := Lib.hid (H6.out.below.trans (hb9.mono H6.out.below.size)); clear hb9))
              go_ret
              exact ⟨rfl, HB9.out⟩

set_option maxRecDepth 100000 in
theorem lifted {XI : Nat → Idx → Sp.Item} (P : Prg XI) (os : Os) (started : os.Started) (H : Type) (enc : TypeId × Value → H) :
    ReturnsInHanded {} Try.checked os 5 .any (Rows.indexOrderSpec.pre6 enc Try.prog Try.f5 Rows.indexOrderRow.domain false) (Rows.indexOrderSpec.post enc Try.prog Try.f5 false true false false) := by
  refine returnsInHanded_of_change (C := Try.checked) own started (by kernel_rfl) Try.func5
    (ChangeSpec.witness6 (enc := enc) (C := Try.checked) false ⟨#[], #[.slice none 0 0], []⟩ 8 (by kernel_rfl) (by kernel_rfl) (by kernel_rfl) (by kernel_rfl)) ?_
  intro W base args ds gs before hval0 hW hcnd _
  have hval : ∀ (j : Nat) t v, Try.f5.params[j]? = some t → args[j]? = some v → Value.okWide Try.prog W .any base t v := hval0
  have hW' := hW
  obtain ⟨p, q, hA0, hV, rfl, hfz, hnd⟩ := hW
  have hA : DataW.TrodAll enc Try.prog W 0 (fun _ => true) true Try.f5.params.toList args.toList ds p := hA0
  rw [Try.params5] at hA hval
  obtain ⟨v0, vs0, d0, ds0, p0, q0, hargs, rfl, rfl, h0, r0⟩ := trodAll_cons hA
  obtain ⟨rfl, rfl, rfl⟩ := trodAll_nil r0
  obtain rfl : args = #[v0] := by cases args; simp_all
  obtain ⟨rfl, rfl⟩ := trodVars_none hV
  obtain ⟨A0, n0, c0, L0, rfl, hn0, hL0, hf0⟩ := Re.open_recs (hval 0 22 v0 rfl rfl) h0
  clear hA0 hval0
  try simp only [List.append_nil] at hW'
  try simp only [List.nil_append] at hW'
  have hlt := fun x hx => hW'.lt x hx
  refine (walk P A0 n0 c0 L0 W hL0 hn0 hf0).mono fun e W' ⟨he, hg⟩ => ?_
  subst he
  refine ⟨_, rfl, post_mem hW' (fun _ _ _ => (trodAll_cons_mk (shut_bool Try.underlying4 _) trodAll_mk0)) (fun sp hsp => ?_) (fun _ => rfl) hg (ok_one (by kernel_rfl) rfl (okWide_bool_mk Try.underlying4 _))⟩
  have hall := (trodAll_cons_mk (arg_same (sp := sp) laid (by kernel_rfl) (of_decide_eq_true (by kernel_rfl)) h0 hg (by intro x hx; simp_all) hlt hsp) trodAll_mk0)
  try simp only [List.append_nil] at hall
  try simp only [List.nil_append] at hall
  exact hall

theorem over {XI : Nat → Idx → Sp.Item} (P : Prg XI) : Rows.indexOrderRow.holds Try.pinned (OpenSpec.ofChange Rows.indexOrderSpec) :=
  OpenClaim.holds_of_wide 5 Try.f5 rfl rfl rfl rfl rfl rfl rfl ⟨rfl, rfl, rfl, rfl, rfl⟩ rfl rfl rfl rfl rfl (by kernel_rfl) Try.func5 (by kernel_rfl)
    (of_decide_eq_true (by kernel_rfl)) (by unfold Func.isWrapper; first | (rw [if_pos (by decide +kernel)]; kernel_rfl) | (rw [if_neg (by decide +kernel)]; exact ⟨rfl, rfl⟩))
    (fun os started H enc _ => lifted P os started H enc)

end Go.Proofs.Ytjdkgkllgapgjaa.indexOrder
