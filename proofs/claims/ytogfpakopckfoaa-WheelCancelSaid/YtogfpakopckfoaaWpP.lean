/- The program's leaveFar: the walk. -/
import Derived.Test.YtogfpakopckfoaaWpO
namespace Go.Proofs.Ytogfpakopckfoaa.Wl
open Go.RowKit Go.Lib Go.Maps
open Sp
set_option linter.unusedVariables false
set_option maxRecDepth 100000

section
variable {W w w' : World} {items I : List Sp.Item} {k g t n ma mf r : Nat} {v : Nat → Value} {sl : Nat → List En} {l : List En} {L A : List En} {p : En → Bool} {e : En} {D : DataW Nat} {left : Lit → Bool} {cnt : Nat}
abbrev goneP (t n : Nat) (left : Lit → Bool) (x : En) : Bool := frr t n x && !(left (.string x.key))
theorem key_inv {key : Value} {kl : Lit} (h : keyOf Try.prog 9 key = some kl) : ∃ x : ByteArray, key = .string x := by
  cases key <;> simp [keyOf, Try.underlying9, mapKey] at h
  exact ⟨_, rfl⟩
theorem key_is {x : ByteArray} {kl : Lit} (h : keyOf Try.prog 9 (.string x) = some kl) : kl = .string x.toList := by
  simp [keyOf, Try.underlying9, mapKey] at h
  rw [Lib.toList_data]
  exact h.2.symm
theorem bytes_eq {a b : ByteArray} (h : a.toList = b.toList) : a = b := by
  rw [Lib.toList_data, Lib.toList_data] at h
  have h9 : a.data = b.data := Array.toList_inj.1 h
  cases a; cases b; simp_all
/-- What an advance takes out of the far ones. -/
def farG (t n : Nat) (x : En) : Bool := decide ((place t n).1 = 4) && frr t n x
/-- What has come out of the map is one of the far ones. -/
theorem came (hMD : MD D (A.filter (slP t p 64))) {kl : Lit} {x : ByteArray} {c : Option Nat} {y : DataW Nat × List MemPlace} (hkey : keyOf Try.prog 9 (.string x) = some kl) (hv : ptrR (ptrV c) = some y) (hat : ∀ zd, D.atKey kl zd = y.1) : ∃ e ∈ A, p e = true ∧ ix t e.n = 64 ∧ e.t.i = x ∧ kl = .string e.key ∧ c = some e.b := by
  obtain rfl := key_is hkey
  by_cases hx : ∃ e ∈ A.filter (slP t p 64), e.key = x.toList
  · obtain ⟨e, he, hk⟩ := hx
    obtain ⟨h1, h2⟩ := List.mem_filter.1 he
    simp only [slP, Bool.and_eq_true, decide_eq_true_iff] at h2
    have h3 := hMD.some_ e he .nil
    rw [hk, hat] at h3
    refine ⟨e, h1, h2.1, h2.2, bytes_eq hk, by rw [hk], ?_⟩
    cases c with
    | none =>
      have : y = (.nil, []) := by injection hv.symm
      rw [this] at h3
      cases h3
    | some b =>
      have : y = (.held b, []) := by injection hv.symm
      rw [this] at h3
      injection h3 with h3
      rw [h3]
  · have hn : ∀ e ∈ A.filter (slP t p 64), e.key ≠ x.toList := fun e he hk => hx ⟨e, he, hk⟩
    have h1 := (hMD.none_ _ hn .nil).symm.trans (hat _)
    have h2 := (hMD.none_ _ hn (.held 0)).symm.trans (hat _)
    rw [← h1] at h2
    cases h2
set_option profiler true in
set_option profiler.threshold 2000 in
set_option maxHeartbeats 8000000 in
theorem far_any (h : Sp.Sep W w items) (hk : items[k]? = some (wI g t L A p)) (hA : AOk A) (hn : n < 18446744073709551616) (ht : t ≤ n) :
    Calls Try.prog 33 #[.pointer (some ⟨g, 0, none⟩), .int .u64 (n : Int)] w fun e w' => ∃ v l, e = .returned v ∧ l.Perm (A.filter (fun x => p x && farG t n x)) ∧ Sp.Sep W w' (items.set k (wI g t L A (fun x => p x && !(farG t n x))) ++ [rowP v l]) := by
  obtain ⟨ma0, mf0, v0, sl0, hM, _⟩ := wI_take h hk
  have x0 : w.cell? ⟨g, 0, none⟩ = some (.int .u64 (t : Int)) := (hM.blk.cell 0).trans (wh0 _ _ _ _)
  obtain ⟨M, hMM⟩ : ∃ M, (place t n).1 = M := ⟨_, rfl⟩
  obtain ⟨S, hSS⟩ : ∃ S, (place t n).2 = S := ⟨_, rfl⟩
  have hpl := fun W' => place_any t n W' (by omega) hn
  rw [hMM, hSS] at hpl
  have HPL := Lib.hid hpl
  have hM4 : M ≤ 4 := by rw [← hMM]; exact (place_lt t n).1
  have HFG : Hid (∀ x, farG t n x = (decide (M = 4) && frr t n x)) := Lib.hid (fun x => by unfold farG; rw [hMM])
  have HK := Lib.hid hk
  have HA := Lib.hid hA
  have HN := Lib.hid hn
  by_cases hlt : M < 4
  · have hli : (M : Int) < 4 := by omega
    have HS5 : Hid (Sp.Sep W w (items.set k (wI g t L A (fun x => p x && !(farG t n x))) ++ [rowP (.slice none 0 0) []])) := Lib.hid (rows_nil (wI_congr h hk fun x _ => by rw [HFG.out, show decide (M = 4) = false from decide_eq_false (by omega)]; simp) _ _)
    have HL5 : Hid (([] : List En).Perm (A.filter (fun x => p x && farG t n x))) := Lib.hid (by
      have hnil : A.filter (fun x => p x && farG t n x) = [] := List.filter_eq_nil_iff.2 fun a _ ha => by
        rw [HFG.out, show decide (M = 4) = false from decide_eq_false (by omega)] at ha
        simp at ha
      rw [hnil])
    clear h hk hA hM hpl hMM hSS ht hn
    go_enter Try.func33, Try.ntmps33
    go_wp2_with (go_at_call 13; refine (HPL.out _).mono ?_; rintro e3 w3 ⟨rfl, rfl⟩)
    go_ret
    exact ⟨_, _, rfl, HL5.out, HS5.out⟩
  · obtain rfl : M = 4 := by omega
    have hli : ¬ ((4 : Nat) : Int) < 4 := by omega
    have HFG4 : Hid (∀ x, farG t n x = frr t n x) := Lib.hid (fun x => by rw [HFG.out]; simp)
    clear HFG
    obtain ⟨ma, mf, v, sl, D, hM2, hD, hMD, start⟩ := wR_start h hk
    have x66 : w.cell? ⟨g, 66, none⟩ = some (.map (some mf)) := (hM2.blk.cell 66).trans (wh66 _ _ _ _)
    have hD4 : w.ownsMap Try.prog 9 ptrR mf 400 D := hD.mono (by have := List.length_filter_le (slP t p 64) A; have := hA.n; omega)
    have HST := Lib.hid start
    have HMD := Lib.hid hMD
    clear h hk hA hM hM2 hpl hMM hSS ht hn start hMD
    go_enter Try.func33, Try.ntmps33
    go_wp2_with (first
      | (go_at_call 13; refine (HPL.out _).mono ?_; rintro e3 w3 ⟨rfl, rfl⟩)
      | (at_range; refine wpList_range_own _ rfl _ 61 rfl 9 75 strK Try.underlying61 _ mf 400 _ rfl hD4 ?_; intro w0 hrg0 hg0 hs0))
    go_frame
    obtain ⟨r, hr⟩ : ∃ r, w3.heap.size = r := ⟨_, rfl⟩
    rw [hr] at hrg0
    have hkey0 : ∀ x ∈ A, p x = true → frr t n x = true → Maps.has D (.string x.key) = true := fun x hx h1 h2 => by
      simp only [frr, Bool.and_eq_true, decide_eq_true_iff] at h2
      exact HMD.out.has (List.mem_filter.2 ⟨hx, by simp [slP, h1, h2.1]⟩)
    have HS0 : Hid (Sp.Sep W w0 (items.set k (wR g ma mf v sl t L A (fun x => p x && !(goneP t n (Maps.has D) x)) r D (Maps.has D) (Maps.size D)) ++ [rowP (.slice none 0 0) []])) := Lib.hid (by
      have h1 := HST.out w0 r (by omega) (by omega) hrg0 hg0
      have h2 := wR_congr h1 (set_at HK.out _) (p' := fun x => p x && !(goneP t n (Maps.has D) x)) (fun x hx => by
        by_cases h3 : p x = true
        · by_cases h4 : frr t n x = true
          · rw [show goneP t n (Maps.has D) x = false by simp [goneP, hkey0 x hx h3 h4]]
            simp
          · rw [show goneP t n (Maps.has D) x = false by simp [goneP, Bool.eq_false_iff.2 h4]]
            simp
        · simp [h3])
      rw [List.set_set] at h2
      exact rows_nil h2 _ _)
    have HL0 : Hid (([] : List En).Perm (A.filter (fun x => p x && goneP t n (Maps.has D) x))) := Lib.hid (by
      have hnil : A.filter (fun x => p x && goneP t n (Maps.has D) x) = [] := List.filter_eq_nil_iff.2 fun a ha h1 => by
        simp only [goneP, Bool.and_eq_true, Bool.not_eq_true'] at h1
        rw [hkey0 a ha h1.1 (by simp [frr] at h1 ⊢; exact h1.2.1)] at h1
        cases h1.2.2
      rw [hnil])
    clear hkey0 HMD HST
    rw [hr]
    clear hrg0 hg0 hs0 hr
    go_loopg [5] (Maps.size D) (fun gk s5 wr => ∃ (D : DataW Nat) (left : Lit → Bool) (l : List En), Hid (l.Perm (A.filter (fun x => p x && goneP t n left x))) ∧ Hid (Sp.Sep W wr (items.set k (wR g ma mf v sl t L A (fun x => p x && !(goneP t n left x)) r D left gk) ++ [rowP s5 l])))
    case atStart => exact ⟨D, Maps.has D, [], HL0, HS0⟩
    case round =>
      obtain ⟨D, left, l, HL, HS⟩ := hrel
      clear HL0 HS0
      have hlen : ∀ X, (items.set k X).length = items.length := fun X => List.length_set
      have hk1 := get_front (J := [rowP u5 l]) (set_at HK.out (wR g ma mf v sl t L A (fun x => p x && !(goneP t n left x)) r D left gk))
      obtain ⟨hM, hrg, hMD, nx, _⟩ := wR_at HS.out hk1
      go_wp2_with (at_next; refine wpList_next_ranges _ rfl _ rfl 9 strK ptrR Value.string ptrV (fun key kl h => key_inv h) (fun v y h => ptrV_inv h) mf r 400 _ _ _ rfl hrg ?_ ?_)
      · intro hc0 hl0
        have HS5 : Hid (Sp.Sep W wr (items.set k (wI g t L A (fun x => p x && !(farG t n x))) ++ [rowP u5 l])) := Lib.hid (by
          have h1 := wR_end HS.out hk1
          have h2 := wI_congr h1 (set_at hk1 _) (p' := fun x => p x && !(farG t n x)) (fun x _ => by simp [HFG4.out, goneP, hl0])
          rw [List.set_set, set_front (set_at HK.out _), List.set_set] at h2
          exact h2)
        have HL5 : Hid (l.Perm (A.filter (fun x => p x && farG t n x))) := Lib.hid (by
          have : A.filter (fun x => p x && farG t n x) = A.filter (fun x => p x && goneP t n left x) := List.filter_congr fun x _ => by simp [HFG4.out, goneP, hl0]
          rw [this]
          exact HL.out)
        clear hk1 hM hrg hMD nx HS HL
        go_wp2_with fail
        go_ret
        exact ⟨_, _, rfl, HL5.out, HS5.out⟩
      · intro x c kl y ps w1 cnt1 hkey hlk hv hat hrg1 hlt1 hg1 hs1 hen
        obtain ⟨e, heA, hpe, hie, rfl, rfl, rfl⟩ := came hMD hkey hv hat
        have hpe2 : p e = true := by
          rw [Bool.and_eq_true] at hpe
          exact hpe.1
        have S1 := nx w1 _ _ hrg1 hg1
        rw [set_front (set_at HK.out _), List.set_set] at S1
        have hk2 := get_front (J := [rowP u5 l]) (set_at HK.out (wR g ma mf v sl t L A (fun x => p x && !(goneP t n left x)) r D (fun z => left z && !z.sameKey (.string e.key)) cnt1))
        obtain ⟨hM1, _, hMD1, _, dl⟩ := wR_at S1 hk2
        obtain ⟨hdn, hen64⟩ := en_n HA.out heA
        obtain ⟨z, _, hz⟩ := hM1.ent e heA
        have y1 : w1.cell? ⟨e.b, 1, none⟩ = some (.int .u64 (e.n : Int)) := (hz.cell 1).trans (by rw [← hdn]; rfl)
        have y66 : w1.cell? ⟨g, 66, none⟩ = some (.map (some mf)) := (hM1.blk.cell 66).trans (wh66 _ _ _ _)
        have HPL2 := Lib.hid (fun W' => place_any n e.n W' HN.out hen64)
        change (Instr.entry (.pointer (some ⟨r, 0, none⟩))).run Try.prog w1 = .ok (.tuple #[.string e.t.i, .pointer (some ⟨e.b, 0, none⟩)]) w1 at hen
        have hsk : ∀ x ∈ A, x ≠ e → (Lit.string x.key).sameKey (.string e.key) = false := fun x hx hne => Maps.sameKey_ne (fun e1 => hne (nodup_inj HA.out.k hx heA (by injection e1)))
        have hse : (Lit.string e.key).sameKey (.string e.key) = true := WideAt.sameKey_self (by simp [WideAt.IsKeyLit])
        have hkr : keyOf Try.prog 9 (.string e.t.i) = some (.string e.key) := hkey
        have hge : goneP t n left e = false := by simp [goneP, hlk]
        by_cases hin : ix n e.n < 64
        · have hpl4 : (place n e.n).1 < 4 := (ix_near hin).2.2
          obtain ⟨M2, hM2⟩ : ∃ z, (place n e.n).1 = z := ⟨_, rfl⟩
          obtain ⟨S2, hS2⟩ : ∃ z, (place n e.n).2 = z := ⟨_, rfl⟩
          rw [hM2, hS2] at HPL2
          have hlt2 : (M2 : Int) < 4 := by omega
          obtain ⟨w2, cnt2, hdr, hrg2, hle, hturn⟩ := hrg1.drop (ty := 0) strK Try.underlying61 hkr
          have hp1 : (fun x => p x && !(goneP t n left x)) e = true := by simp [hpe2, hge]
          have hMD2 : MD (D.del (.string e.key)) (A.filter (slP t (fun x => (p x && !(goneP t n left x)) && !(x.b == e.b)) 64)) := (hMD1.perm ((slP_take HA.out heA hp1).1 hie)).del (hrg1.owns.tidy strK) (fun a ha e1 => by
            obtain ⟨h3, h4⟩ := List.mem_filter.1 ha
            have := nodup_inj HA.out.k h3 heA e1
            subst this
            simp at h4)
          have S2 := dl w2 _ _ cnt2 _ hrg2 hturn hMD2 (fun q hq => (slP_take HA.out heA hp1).2 (by omega))
          rw [set_front (set_at HK.out _), List.set_set] at S2
          have S3 := wR_congr S2 (get_front (set_at HK.out _)) (p' := fun x => p x && !(goneP t n (fun z => (left z && !z.sameKey (.string e.key)) && !z.sameKey (.string e.key)) x)) (fun x hx => by
            by_cases e1 : x = e
            · subst e1
              simp [goneP, hse, hie, hin]
            · have e2 : (x.b == e.b) = false := by simpa using fun e3 => e1 (nodup_inj HA.out.b hx heA e3)
              simp [goneP, hsk x hx e1, e2])
          rw [set_front (set_at HK.out _), List.set_set] at S3
          have hl200 : l.length ≤ 200 := by rw [HL.out.length_eq]; exact Nat.le_trans (List.length_filter_le _ _) HA.out.n
          obtain ⟨v4, w4, hap, S4⟩ := rows_pushS (k := items.length) (cs := [e.ptr]) S3 (get_last (hlen _)) Try.underlying62 pptr_infos rfl (by decide) (by decide) (by omega) rfl (by intro u hu; simp only [List.mem_singleton] at hu; subst hu; rfl)
          rw [set_last (hlen _)] at S4
          have HS6 : Hid (Sp.Sep W w4 (items.set k (wR g ma mf v sl t L A (fun x => p x && !(goneP t n (fun z => (left z && !z.sameKey (.string e.key)) && !z.sameKey (.string e.key)) x)) r (D.del (.string e.key)) (fun z => (left z && !z.sameKey (.string e.key)) && !z.sameKey (.string e.key)) cnt2) ++ [rowP v4 (l ++ [e])])) := Lib.hid (by
            unfold rowP
            rw [List.length_append, List.map_append]
            exact S4)
          have HL6 : Hid ((l ++ [e]).Perm (A.filter (fun x => p x && goneP t n (fun z => (left z && !z.sameKey (.string e.key)) && !z.sameKey (.string e.key)) x))) := Lib.hid (by
            have h1 := filter_put (p := fun x => p x && goneP t n left x) (q := fun x => p x && goneP t n (fun z => (left z && !z.sameKey (.string e.key)) && !z.sameKey (.string e.key)) x) HA.out.b heA (by simp [hge]) (by simp [goneP, hpe2, hse, hie, hin]) (fun x hx hne => by simp [goneP, hsk x hx hne])
            exact ((List.perm_append_comm (l₁ := l) (l₂ := [e])).trans (HL.out.cons e)).trans h1.symm)
          have hdr2 : ∀ ty, (Builtin.delete_ #[61, 9] ty #[.map (some mf), .string e.t.i]).run Try.prog w1 = .ok (.tuple #[]) w2 := fun ty => hdr
          have hgk : cnt2 < gk := by omega
          change (Builtin.append_ #[62, 62] 62 #[u5, .slice (some ⟨w2.heap.size, 0, none⟩) 1 1]).run Try.prog (w2.alloc (.cells #[.pointer (some ⟨e.b, 0, none⟩)] 75)) = .ok v4 w4 at hap
          clear S1 hk1 hk2 hM1 hMD1 dl hz hrg1 hrg2 hle hturn hMD2 S2 S3 S4 hM hrg hMD nx HS HL hsk hse hge hp1 hpe hpe2 hie hlk hv hat hkey hkr hg1 hs1
          go_wp2_with (first
            | (go_at_call 13; refine (HPL2.out _).mono ?_; rintro e3 w3 ⟨rfl, rfl⟩)
            | (refine wp_del 61 9 rfl (.tmp 49) (.tmp 50) rfl (.map (some mf)) (.string e.t.i) rfl rfl hdr2 ?_)
            | (with_reducible refine wpList_append_run (w2.alloc (.cells #[.pointer (some ⟨e.b, 0, none⟩)] 75)) rfl (.tmp 51) (.tmp 53) 62 62 rfl u5 (.slice (some ⟨w2.heap.size, 0, none⟩) 1 1) rfl rfl v4 w4 hap ?_))
          go_roundg cnt2
          case measure => exact hgk
          case rel => exact ⟨_, _, _, HL6, HS6⟩
        · have hpl4 : (place n e.n).1 = 4 := by
            have := ix_le n e.n
            exact ix_far.1 (by omega)
          obtain ⟨S2, hS2⟩ : ∃ z, (place n e.n).2 = z := ⟨_, rfl⟩
          rw [hpl4, hS2] at HPL2
          have hlt2 : ¬ (((4 : Nat) : Int) < 4) := by omega
          have hq : ∀ x ∈ A, goneP t n (fun z => left z && !z.sameKey (.string e.key)) x = goneP t n left x := fun x hx => by
            by_cases e1 : x = e
            · subst e1
              have h9 : frr t n x = false := by unfold frr; rw [decide_eq_false hin, Bool.and_false]
              simp only [goneP, h9, Bool.false_and]
            · simp [goneP, hsk x hx e1]
          have S3 := wR_congr S1 hk2 (p' := fun x => p x && !(goneP t n (fun z => left z && !z.sameKey (.string e.key)) x)) (fun x hx => by rw [hq x hx])
          rw [set_front (set_at HK.out _), List.set_set] at S3
          have HS6 := Lib.hid S3
          have HL6 : Hid (l.Perm (A.filter (fun x => p x && goneP t n (fun z => left z && !z.sameKey (.string e.key)) x))) := Lib.hid (by
            rw [List.filter_congr (q := fun x => p x && goneP t n left x) fun x hx => by rw [hq x hx]]
            exact HL.out)
          have hgk : cnt1 < gk := hlt1
          clear S1 hk1 hk2 hM1 hMD1 dl hz hrg1 S3 hM hrg hMD nx HS HL hsk hse hge hpe hpe2 hie hlk hv hat hkey hkr hg1 hs1 hq hlt1
          go_wp2_with (go_at_call 13; refine (HPL2.out _).mono ?_; rintro e3 w3 ⟨rfl, rfl⟩)
          go_roundg cnt1
          case measure => exact hgk
          case rel => exact ⟨_, _, _, HL6, HS6⟩
end
end Go.Proofs.Ytogfpakopckfoaa.Wl
