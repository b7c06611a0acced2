/- The program's each: all entries of a list are put where they belong. -/
import Derived.Test.YtogfpakopckfoaaWpP
namespace Go.Proofs.Ytogfpakopckfoaa.Wl
open Go.RowKit Go.Lib Go.Maps
open Sp
set_option linter.unusedVariables false
set_option maxRecDepth 100000

section
variable {W w w' : World} {items J : List Sp.Item} {k g t n : Nat} {v : Value} {l : List En} {L A : List En} {p : En → Bool} {e : En}
theorem rowP_slc (h : Sp.Sep W w items) {j : Nat} (hj : items[j]? = some (rowP v l)) : ∃ A p, v = .slice A l.length p := rows_slice h hj
theorem rowP_cell (h : Sp.Sep W w items) {j : Nat} {Av : Option Addr} {cv : Nat} (hj : items[j]? = some (rowP (.slice Av l.length cv) l)) (hn : 0 < l.length) : ∃ r, Av = some ⟨r, 0, none⟩ ∧ ∀ i e, l[i]? = some e → w.cell? ⟨r, i, none⟩ = some (.pointer (some ⟨e.b, 0, none⟩)) := by
  obtain ⟨r, hA, hc⟩ := rows_cell h hj hn
  refine ⟨r, hA, fun i e he => ?_⟩
  have hi := (List.getElem?_eq_some_iff.1 he).1
  rw [hc i (by omega), List.getElem?_map, he]
  rfl
abbrev putP (p : En → Bool) (l : List En) (x : En) : Bool := p x || l.any (fun a => x.b == a.b)
set_option maxHeartbeats 4000000 in
theorem each_any (h : Sp.Sep W w (J ++ [rowP v l])) (hk : J[k]? = some (wI g t L A p)) (hA : AOk A) (ht : t < 18446744073709551616) (hl : ∀ e ∈ l, e ∈ A ∧ p e = false) (hb : (l.map En.b).Nodup) (hn : l.length ≤ 200) :
    Calls Try.prog 34 #[v, .func (.func 31) #[.pointer (some ⟨g, 0, none⟩)] #[]] w fun x w' => x = .returned (.tuple #[]) ∧ Sp.Sep W w' (J.set k (wI g t L A (putP p l)) ++ [rowP v l]) := by
  obtain ⟨Av, cv, rfl⟩ := rowP_slc h (get_last rfl)
  have HK := Lib.hid hk
  have HA := Lib.hid hA
  have HT := Lib.hid ht
  have HL := Lib.hid hl
  have HB := Lib.hid hb
  have HN := Lib.hid hn
  have HS0 : Hid (Sp.Sep W w (J.set k (wI g t L A (putP p (l.take 0))) ++ [rowP (.slice Av l.length cv) l])) := Lib.hid (by
    have h1 := wI_congr h (get_front hk) (p' := putP p (l.take 0)) (fun x _ => by simp [putP])
    rw [set_front hk] at h1
    exact h1)
  obtain ⟨m, hm⟩ : ∃ m, l.length = m := ⟨_, rfl⟩
  rw [hm] at HS0 HN ⊢
  have HM := Lib.hid hm
  clear h hk hA ht hl hb hn hm
  go_enter Try.func34, Try.ntmps34
  go_wp2_with fail
  go_loopg [8] m (fun gk s8 wr => ∃ (i : Nat), i ≤ m ∧ gk = m - i ∧ s8 = .int .i64 (i : Nat) ∧ Hid (Sp.Sep W wr (J.set k (wI g t L A (putP p (l.take i))) ++ [rowP (.slice Av m cv) l])))
  case atStart => exact ⟨0, by omega, rfl, rfl, HS0⟩
  case round =>
    obtain ⟨i, hi, hgk, rfl, HS⟩ := hrel
    have HGK := Lib.hid hgk
    clear hgk HS0
    by_cases hlt : i < m
    · have hli : (i : Int) < (m : Int) := by omega
      have wi : IntKind.i64.wrap ((i : Int) + 1) = (i : Int) + 1 := IntWalk.i64_in _ (by have := HN.out; omega)
      obtain ⟨e, he⟩ : ∃ e, l[i]? = some e := ⟨_, List.getElem?_eq_getElem (by rw [HM.out]; exact hlt)⟩
      have hg : (J.set k (wI g t L A (putP p (l.take i))) ++ [rowP (.slice Av m cv) l])[J.length]? = some (rowP (.slice Av m cv) l) := get_last List.length_set
      rw [← HM.out] at hg
      obtain ⟨r, rfl, hc⟩ := rowP_cell HS.out (by rw [← HM.out]; exact hg) (by rw [HM.out]; omega)
      have x0 := hc i e he
      have hel := HL.out e (List.mem_of_getElem? he)
      have hpe : putP p (l.take i) e = false := by
        simp only [putP, hel.2, Bool.false_or]
        rw [List.any_eq_false]
        intro a ha hab
        obtain ⟨j, hj, hja⟩ := List.mem_take_iff_getElem.1 ha
        have e1 : e.b = a.b := by simpa using hab
        have hij : i < l.length := by rw [HM.out]; exact hlt
        have h1 := List.pairwise_iff_getElem.1 HB.out j i (by rw [List.length_map]; omega) (by rw [List.length_map]; exact hij) (by omega)
        have h2 : l[i] = e := by
          have := List.getElem?_eq_getElem hij
          rw [he] at this
          injection this with this
          exact this.symm
        simp only [List.getElem_map] at h1
        rw [hja, h2] at h1
        exact h1 e1.symm
      have HPT := Lib.hid (put_any HS.out (get_front (set_at HK.out _)) HA.out HT.out hel.1 hpe)
      rw [set_front (set_at HK.out _), List.set_set] at HPT
      have HTK : Hid (∀ x, putP p (l.take (i + 1)) x = (putP p (l.take i) x || x.b == e.b)) := Lib.hid (fun x => by
        rw [List.take_add_one, he]
        simp [putP, Bool.or_assoc])
      clear hg hc hel hpe he HS
      go_wp2_with (go_at_call 31; refine HPT.out.mono ?_; rintro e3 w3 ⟨rfl, h3⟩; have H3 := Lib.hid h3; clear h3)
      have HS5 : Hid (Sp.Sep W w3 (J.set k (wI g t L A (putP p (l.take (i + 1)))) ++ [rowP (.slice (some ⟨r, 0, none⟩) m cv) l])) := Lib.hid (by
        have h1 := wI_congr H3.out (get_front (set_at HK.out _)) (p' := putP p (l.take (i + 1))) (fun x _ => HTK.out x)
        rw [set_front (set_at HK.out _), List.set_set] at h1
        exact h1)
      clear H3 HPT
      go_roundg (m - (i + 1))
      case measure => have := HGK.out; omega
      case rel => exact ⟨i + 1, by omega, by have := HGK.out; omega, by go_num, HS5⟩
    · obtain rfl : i = m := by omega
      have HS5 : Hid (Sp.Sep W wr (J.set k (wI g t L A (putP p l)) ++ [rowP (.slice Av i cv) l])) := Lib.hid (by
        have := HS.out
        rw [← HM.out, List.take_length, HM.out] at this
        exact this)
      clear HS
      go_wp2_with fail
      go_end0
      exact ⟨rfl, HS5.out⟩
end
end Go.Proofs.Ytogfpakopckfoaa.Wl
