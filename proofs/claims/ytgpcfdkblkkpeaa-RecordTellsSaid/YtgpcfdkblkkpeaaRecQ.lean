/- Where each field of a sector stands, byte by byte; what a sector with another byte, or with another one's last bytes, is not. No program is spoken of, but for the contract of lodgerref01.Get told of old memory. -/
import Derived.Test.YtgpcfdkblkkpeaaRecP
namespace Go.Proofs.Ytgpcfdkblkkpeaa
open Go.RowKit Go.Lib Wd Cr Ck
set_option linter.unusedVariables false

theorem ext_mid (S : ByteArray) (a b : Nat) : (S.extract a b).data.toList = (S.data.toList.drop a).take (b - a) := by
  simp only [ByteArray.data_extract, Array.toList_extract, List.extract_eq_take_drop]

theorem getN_one (l : List UInt8) (j : Nat) (h : j < l.length) : getN ((l.drop j).take 1) = byteAt l j := by
  have e : (l.drop j).take 1 = [l[j]] := by
    rw [List.drop_eq_getElem_cons h]; rfl
  rw [e]
  simp [getN, leN, byteAt, List.getElem?_eq_getElem h]

theorem byte_one (S : ByteArray) (j : Nat) (h : j < S.size) (x : Nat) (hx : getN ((S.data.toList.drop j).take 1) = x) : (S[j]'h).toNat = x := by
  rw [R1.byte_get, ← getN_one _ _ (by rw [← Go.Lib.size_eq]; exact h), hx]

section
variable {l e k v d : Int} {i a S : ByteArray}
theorem q_l (hf : Fits ⟨l, e, k, v, d, i.data.toList, a.data.toList⟩) (h : okR ⟨l, e, k, v, d, i.data.toList, a.data.toList⟩ = true) (hS : secL ⟨l, e, k, v, d, i.data.toList, a.data.toList⟩ = S.data.toList) : ((getN (S.extract 0 8).data.toList : Nat) : Int) = l := by
  have := congrArg Rec.l (cutR_secL hf h)
  rw [hS] at this
  rw [ext_mid]; exact this
theorem q_e (hf : Fits ⟨l, e, k, v, d, i.data.toList, a.data.toList⟩) (h : okR ⟨l, e, k, v, d, i.data.toList, a.data.toList⟩ = true) (hS : secL ⟨l, e, k, v, d, i.data.toList, a.data.toList⟩ = S.data.toList) : ((getN (S.extract 8 12).data.toList : Nat) : Int) = e := by
  have := congrArg Rec.e (cutR_secL hf h)
  rw [hS] at this
  rw [ext_mid]; exact this
theorem q_v (hf : Fits ⟨l, e, k, v, d, i.data.toList, a.data.toList⟩) (h : okR ⟨l, e, k, v, d, i.data.toList, a.data.toList⟩ = true) (hS : secL ⟨l, e, k, v, d, i.data.toList, a.data.toList⟩ = S.data.toList) : ((getN (S.extract 15 23).data.toList : Nat) : Int) = v := by
  have := congrArg Rec.v (cutR_secL hf h)
  rw [hS] at this
  rw [ext_mid]; exact this
theorem q_d (hf : Fits ⟨l, e, k, v, d, i.data.toList, a.data.toList⟩) (h : okR ⟨l, e, k, v, d, i.data.toList, a.data.toList⟩ = true) (hS : secL ⟨l, e, k, v, d, i.data.toList, a.data.toList⟩ = S.data.toList) : ((getN (S.extract 23 31).data.toList : Nat) : Int) = d := by
  have := congrArg Rec.d (cutR_secL hf h)
  rw [hS] at this
  rw [ext_mid]; exact this
theorem q_k (hf : Fits ⟨l, e, k, v, d, i.data.toList, a.data.toList⟩) (h : okR ⟨l, e, k, v, d, i.data.toList, a.data.toList⟩ = true) (hS : secL ⟨l, e, k, v, d, i.data.toList, a.data.toList⟩ = S.data.toList) (hz : 12 < S.size) : ((S[12]'hz).toNat : Int) = k := by
  have := congrArg Rec.k (cutR_secL hf h)
  rw [hS] at this
  rw [byte_one S 12 hz _ rfl]; exact this
theorem len_i (hf : Fits ⟨l, e, k, v, d, i.data.toList, a.data.toList⟩) (h : okR ⟨l, e, k, v, d, i.data.toList, a.data.toList⟩ = true) (hS : secL ⟨l, e, k, v, d, i.data.toList, a.data.toList⟩ = S.data.toList) : getN ((S.data.toList.drop 13).take 1) = i.data.toList.length := by
  have hi := okR_i h
  have e0 : ((secL ⟨l, e, k, v, d, i.data.toList, a.data.toList⟩).drop 13).take 1 = putL i.data.toList.length 1 := by
    have := take_at (putL l.toNat 8 ++ putL e.toNat 4 ++ putL k.toNat 1) (putL i.data.toList.length 1) (putL a.data.toList.length 1 ++ (putL v.toNat 8 ++ (putL d.toNat 8 ++ (i.data.toList ++ (a.data.toList ++ (List.replicate (112 - (fieldsL ⟨l, e, k, v, d, i.data.toList, a.data.toList⟩).length) 0 ++ (putL (Crc.more 0 (bodyL ⟨l, e, k, v, d, i.data.toList, a.data.toList⟩)) 4 ++ stampL ⟨l, e, k, v, d, i.data.toList, a.data.toList⟩))))))) 13 1 (by simp [putL_length]) (putL_length _ _)
    have e1 : secL ⟨l, e, k, v, d, i.data.toList, a.data.toList⟩ = putL l.toNat 8 ++ putL e.toNat 4 ++ putL k.toNat 1 ++ (putL i.data.toList.length 1 ++ (putL a.data.toList.length 1 ++ (putL v.toNat 8 ++ (putL d.toNat 8 ++ (i.data.toList ++ (a.data.toList ++ (List.replicate (112 - (fieldsL ⟨l, e, k, v, d, i.data.toList, a.data.toList⟩).length) 0 ++ (putL (Crc.more 0 (bodyL ⟨l, e, k, v, d, i.data.toList, a.data.toList⟩)) 4 ++ stampL ⟨l, e, k, v, d, i.data.toList, a.data.toList⟩)))))))) := by
      rw [secL]
      generalize putL (Crc.more 0 (bodyL ⟨l, e, k, v, d, i.data.toList, a.data.toList⟩)) 4 = T
      generalize hst : stampL ⟨l, e, k, v, d, i.data.toList, a.data.toList⟩ = st
      rw [bodyL]
      generalize List.replicate (112 - (fieldsL ⟨l, e, k, v, d, i.data.toList, a.data.toList⟩).length) (0 : UInt8) = Z
      simp only [fieldsL, stampL, List.append_assoc]
    rw [e1]; exact this
  simp only at hi
  rw [← hS, e0, getN_putL _ _ (by omega), Nat.mod_eq_of_lt (by omega)]
theorem len_a (hf : Fits ⟨l, e, k, v, d, i.data.toList, a.data.toList⟩) (h : okR ⟨l, e, k, v, d, i.data.toList, a.data.toList⟩ = true) (hS : secL ⟨l, e, k, v, d, i.data.toList, a.data.toList⟩ = S.data.toList) : getN ((S.data.toList.drop 14).take 1) = a.data.toList.length := by
  have ha := okR_a h
  have e0 : ((secL ⟨l, e, k, v, d, i.data.toList, a.data.toList⟩).drop 14).take 1 = putL a.data.toList.length 1 := by
    have := take_at (putL l.toNat 8 ++ putL e.toNat 4 ++ putL k.toNat 1 ++ putL i.data.toList.length 1) (putL a.data.toList.length 1) (putL v.toNat 8 ++ (putL d.toNat 8 ++ (i.data.toList ++ (a.data.toList ++ (List.replicate (112 - (fieldsL ⟨l, e, k, v, d, i.data.toList, a.data.toList⟩).length) 0 ++ (putL (Crc.more 0 (bodyL ⟨l, e, k, v, d, i.data.toList, a.data.toList⟩)) 4 ++ stampL ⟨l, e, k, v, d, i.data.toList, a.data.toList⟩)))))) 14 1 (by simp [putL_length]) (putL_length _ _)
    have e1 : secL ⟨l, e, k, v, d, i.data.toList, a.data.toList⟩ = putL l.toNat 8 ++ putL e.toNat 4 ++ putL k.toNat 1 ++ putL i.data.toList.length 1 ++ (putL a.data.toList.length 1 ++ (putL v.toNat 8 ++ (putL d.toNat 8 ++ (i.data.toList ++ (a.data.toList ++ (List.replicate (112 - (fieldsL ⟨l, e, k, v, d, i.data.toList, a.data.toList⟩).length) 0 ++ (putL (Crc.more 0 (bodyL ⟨l, e, k, v, d, i.data.toList, a.data.toList⟩)) 4 ++ stampL ⟨l, e, k, v, d, i.data.toList, a.data.toList⟩))))))) := by
      rw [secL]
      generalize putL (Crc.more 0 (bodyL ⟨l, e, k, v, d, i.data.toList, a.data.toList⟩)) 4 = T
      generalize hst : stampL ⟨l, e, k, v, d, i.data.toList, a.data.toList⟩ = st
      rw [bodyL]
      generalize List.replicate (112 - (fieldsL ⟨l, e, k, v, d, i.data.toList, a.data.toList⟩).length) (0 : UInt8) = Z
      simp only [fieldsL, stampL, List.append_assoc]
    rw [e1]; exact this
  simp only at ha
  rw [← hS, e0, getN_putL _ _ (by omega), Nat.mod_eq_of_lt (by omega)]
theorem q_i (hf : Fits ⟨l, e, k, v, d, i.data.toList, a.data.toList⟩) (h : okR ⟨l, e, k, v, d, i.data.toList, a.data.toList⟩ = true) (hS : secL ⟨l, e, k, v, d, i.data.toList, a.data.toList⟩ = S.data.toList) (hz : 13 < S.size) : (S[13]'hz).toNat = i.size := by
  rw [byte_one S 13 hz _ (len_i hf h hS), Go.Lib.size_eq]
theorem q_a (hf : Fits ⟨l, e, k, v, d, i.data.toList, a.data.toList⟩) (h : okR ⟨l, e, k, v, d, i.data.toList, a.data.toList⟩ = true) (hS : secL ⟨l, e, k, v, d, i.data.toList, a.data.toList⟩ = S.data.toList) (hz : 14 < S.size) : (S[14]'hz).toNat = a.size := by
  rw [byte_one S 14 hz _ (len_a hf h hS), Go.Lib.size_eq]
theorem q_text (hf : Fits ⟨l, e, k, v, d, i.data.toList, a.data.toList⟩) (h : okR ⟨l, e, k, v, d, i.data.toList, a.data.toList⟩ = true) (hS : secL ⟨l, e, k, v, d, i.data.toList, a.data.toList⟩ = S.data.toList) (n : Nat) (hn : n = 31 + i.size + a.size) : S.extract 31 n = i ++ a := by
  apply bytes_ext
  have hi := congrArg Rec.i (cutR_secL hf h)
  have ha := congrArg Rec.a (cutR_secL hf h)
  rw [hS] at hi ha
  simp only [cutR] at hi ha
  rw [len_i hf h hS] at hi ha
  rw [len_a hf h hS] at ha
  rw [ext_mid, ByteArray.data_append, Array.toList_append, hn, Go.Lib.size_eq, Go.Lib.size_eq]
  have e0 : 31 + i.data.toList.length + a.data.toList.length - 31 = i.data.toList.length + a.data.toList.length := by omega
  rw [e0, List.take_add, hi, List.drop_drop, ha]
theorem q_l2 (hf : Fits ⟨l, e, k, v, d, i.data.toList, a.data.toList⟩) (h : okR ⟨l, e, k, v, d, i.data.toList, a.data.toList⟩ = true) (hS : secL ⟨l, e, k, v, d, i.data.toList, a.data.toList⟩ = S.data.toList) : ((getN (S.extract 116 124).data.toList : Nat) : Int) = l := by
  rw [ext_mid, ← hS, secL_last h]
  have e0 : (stampL ⟨l, e, k, v, d, i.data.toList, a.data.toList⟩).take (124 - 116) = putL l.toNat 8 := by
    unfold stampL
    rw [List.take_append_of_le_length (by rw [putL_length]; omega), List.take_of_length_le (by rw [putL_length]; omega)]
  rw [e0, getN_putL _ _ (by omega)]
  have h0 := hf.l0
  have h1 := hf.l1
  simp only at h0 h1
  omega
theorem q_e2 (hf : Fits ⟨l, e, k, v, d, i.data.toList, a.data.toList⟩) (h : okR ⟨l, e, k, v, d, i.data.toList, a.data.toList⟩ = true) (hS : secL ⟨l, e, k, v, d, i.data.toList, a.data.toList⟩ = S.data.toList) : ((getN (S.extract 124 128).data.toList : Nat) : Int) = e := by
  rw [ext_mid, ← hS, show (124 : Nat) = 116 + 8 from rfl, ← List.drop_drop, secL_last h]
  have e0 : (stampL ⟨l, e, k, v, d, i.data.toList, a.data.toList⟩).drop 8 = putL e.toNat 4 := by
    unfold stampL
    rw [List.drop_append_of_le_length (by rw [putL_length]; omega), List.drop_of_length_le (by rw [putL_length]; omega), List.nil_append]
  rw [e0, List.take_of_length_le (by rw [putL_length]; omega), getN_putL _ _ (by omega)]
  have h0 := hf.e0
  have h1 := hf.e1
  simp only at h0 h1
  omega
theorem q_zero (hf : Fits ⟨l, e, k, v, d, i.data.toList, a.data.toList⟩) (h : okR ⟨l, e, k, v, d, i.data.toList, a.data.toList⟩ = true) (hS : secL ⟨l, e, k, v, d, i.data.toList, a.data.toList⟩ = S.data.toList) (j : Nat) (hj : j < S.size) (h1 : 31 + i.size + a.size ≤ j) (h2 : j < 112) : (S[j]'hj).toNat = 0 := by
  have hl := fieldsL_len ⟨l, e, k, v, d, i.data.toList, a.data.toList⟩
  simp only at hl
  rw [← Go.Lib.size_eq, ← Go.Lib.size_eq] at hl
  have hb := bodyL_len h
  rw [R1.byte_get, ← hS]
  unfold byteAt
  have e0 : (secL ⟨l, e, k, v, d, i.data.toList, a.data.toList⟩)[j]? = (bodyL ⟨l, e, k, v, d, i.data.toList, a.data.toList⟩)[j]? := by
    rw [← secL_body h, List.getElem?_take_of_lt h2]
  rw [e0, bodyL, List.getElem?_append_right (by omega), List.getElem?_replicate, if_pos (by omega)]
  rfl
end

/-- lodgerref01.Get, told of old memory. -/
theorem r1get (s : ByteArray) (r : Int) (w : World) (hr : ((getN s.data.toList : Nat) : Int) = r) :
    Calls Try.prog 21 #[.string s] w fun e w' => e = .returned (.int .u64 r) ∧ Below w.heap.size w w' := by
  subst hr
  exact (R1.get_any s w).mono fun _ _ ⟨he, hw⟩ => ⟨he, hw ▸ Below.refl _ _⟩

end Go.Proofs.Ytgpcfdkblkkpeaa
