/- What a sector with another byte, or with another one's last bytes, is not: no record's, or none of that place and epoch. No program is spoken of. -/
import Derived.Test.YtgpcfdkblkkpeaaRecQ
namespace Go.Proofs.Ytgpcfdkblkkpeaa
open Go.RowKit Go.Lib Wd Cr Ck
set_option linter.unusedVariables false

theorem one_bad {r : Rec} (hf : Fits r) (h : okR r = true) (j : Nat) (hj : j < 128) (b : UInt8) (hb : (secL r)[j]? ≠ some b) : isSec ((secL r).set j b) = false := by
  cases hs : isSec ((secL r).set j b)
  · rfl
  exfalso
  have hlen := secL_len h
  obtain ⟨ho, hq⟩ := (isSec_iff _).1 hs
  have hg := cutR_fits ((secL r).set j b)
  generalize cutR ((secL r).set j b) = q at *
  have hself : ((secL r).set j b)[j]? = some b := List.getElem?_set_self (by omega)
  by_cases h1 : j < 112
  · have e1 : ((secL q).drop 112).take 4 = ((secL r).drop 112).take 4 := by
      rw [hq, List.drop_set_of_lt h1]
    rw [secL_sum ho, secL_sum h] at e1
    have m1 := Crc.more_lt (bodyL q) (s := 0) (by omega)
    have m2 := Crc.more_lt (bodyL r) (s := 0) (by omega)
    have e2 := putL_inj (by omega) (by omega) e1
    have eb : bodyL q = (bodyL r).set j b := by
      rw [← secL_body ho, ← secL_body h, hq, List.take_set]
    have e3 := burst_eq (bodyL r) (bodyL q) j (by rw [eb, List.length_set]) (by rw [eb, List.take_set_of_le (Nat.le_refl _)]) (by rw [eb, List.drop_set_of_lt (by omega)]) e2
    apply hb
    have e4 : (secL r)[j]? = (bodyL r)[j]? := by rw [← secL_body h, List.getElem?_take_of_lt h1]
    rw [e4, ← e3, eb, List.getElem?_set_self (by rw [bodyL_len h]; exact h1)]
  · by_cases h2 : j < 116
    · have eb : bodyL q = bodyL r := by
        rw [← secL_body ho, ← secL_body h, hq, List.take_set_of_le (by omega)]
      have e1 : ((secL q).drop 112).take 4 = ((secL r).drop 112).take 4 := by
        rw [secL_sum ho, secL_sum h, eb]
      have e2 := congrArg (fun l => l[j - 112]?) e1
      rw [List.getElem?_take_of_lt (by omega), List.getElem?_take_of_lt (by omega), List.getElem?_drop, List.getElem?_drop, show 112 + (j - 112) = j by omega, hq, hself] at e2
      exact hb e2.symm
    · have e1 : stampL q = stampL r := by
        rw [← secL_first ho, ← secL_first h, hq, List.take_set_of_le (by omega)]
      have e2 : (secL q).drop 116 = (secL r).drop 116 := by rw [secL_last ho, secL_last h, e1]
      have e3 := congrArg (fun l => l[j - 116]?) e2
      rw [List.getElem?_drop, List.getElem?_drop, show 116 + (j - 116) = j by omega, hq, hself] at e3
      exact hb e3.symm

theorem take_eq {l m : List UInt8} {n k : Nat} (h : l.take n = m.take n) (hk : k ≤ n) : l.take k = m.take k := by
  rw [← Nat.min_eq_left hk, ← List.take_take, h, List.take_take]

/-- A torn sector, with the last bytes of another one (or of none): it is no record's of the first one's place and epoch, unless it is the first one's, whole. -/
theorem torn_first {r q : Rec} (t : List UInt8) (k : Nat) (hk : k ≤ 128) (hf : Fits r) (h : okR r = true) (ht : t.length = 128) (hne : t.drop 116 ≠ stampL r)
    (hg : Fits q) (ho : okR q = true) (hq : secL q = (secL r).take k ++ t.drop k) (hl : q.l = r.l) (he : q.e = r.e) : secL q = secL r := by
  have hlen := secL_len h
  have e1 : (secL q).drop 116 = stampL r := by rw [secL_last ho, stampL_congr hl he]
  by_cases h1 : k ≤ 116
  · exfalso
    apply hne
    have e3 : ((secL r).take k).drop 116 = [] := List.drop_of_length_le (by rw [List.length_take]; omega)
    rw [← e1, hq, List.drop_append, List.length_take, e3, List.nil_append, List.drop_drop]
    congr 1; omega
  · have e2 : (secL q).take 116 = (secL r).take 116 := by
      rw [hq, List.take_append_of_le_length (by rw [List.length_take]; omega), List.take_take, Nat.min_eq_left (by omega)]
    rw [← List.take_append_drop 116 (secL q), ← List.take_append_drop 116 (secL r), e1, e2, secL_last h]

/-- And of the other one's place and epoch, unless it is the other one's, whole. -/
theorem torn_other {r p q : Rec} (k : Nat) (hk : k ≤ 128) (hf : Fits r) (h : okR r = true) (hfp : Fits p) (hp : okR p = true) (hne : stampL r ≠ stampL p)
    (hg : Fits q) (ho : okR q = true) (hq : secL q = (secL r).take k ++ (secL p).drop k) (hl : q.l = p.l) (he : q.e = p.e) : secL q = secL p := by
  have hlen := secL_len h
  have hlenp := secL_len hp
  have e1 : (secL q).take 12 = stampL p := by rw [secL_first ho, stampL_congr hl he]
  by_cases h1 : 12 ≤ k
  · exfalso
    apply hne
    rw [← e1, hq, List.take_append_of_le_length (by rw [List.length_take]; omega), List.take_take, Nat.min_eq_left (by omega), secL_first h]
  · have e2 : (secL q).drop 12 = (secL p).drop 12 := by
      have e3 : ((secL r).take k).drop 12 = [] := List.drop_of_length_le (by rw [List.length_take]; omega)
      rw [hq, List.drop_append, List.length_take, e3, List.nil_append, List.drop_drop]
      congr 1; omega
    rw [← List.take_append_drop 12 (secL q), ← List.take_append_drop 12 (secL p), e1, e2, secL_first hp]

end Go.Proofs.Ytgpcfdkblkkpeaa
