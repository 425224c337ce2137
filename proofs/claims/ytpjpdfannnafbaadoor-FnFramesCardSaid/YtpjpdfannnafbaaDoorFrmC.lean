/- A frame's own hex text, also with one wrong bit: plain mathematics. -/
import Derived.Test.YtpjpdfannnafbaaDoorFrmK
import Derived.Test.YtpjpdfannnafbaaDoorParM
namespace Go.Proofs.YtpjpdfannnafbaaDoor.frmc
open Go.RowKit Go.Proofs.YtpjpdfannnafbaaDoor.bin Go.Proofs.YtpjpdfannnafbaaDoor.good_ Go.Proofs.YtpjpdfannnafbaaDoor.par Go.Proofs.YtpjpdfannnafbaaDoor.frm Go.Proofs.YtpjpdfannnafbaaDoor.frme

theorem dec56 {T : ByteArray} (hT : rdB 2 64 T = true) (h : T.size = 56) : dec 2 T.data.toList < 72057594037927936 := by
  have := dec_lt 2 T.data.toList (bitsi.rd_ok hT).2
  rw [bitsi.len_list, h] at this
  exact this
/-- The hex text of 56 bits, and back. -/
theorem hex_back {T : ByteArray} (hT : rdB 2 64 T = true) (h : T.size = 56) : bitsi.hexB T = true ∧ hexB (bitsi.hexT T) = true ∧ bitsi.unhexT (bitsi.hexT T) = T := by
  have hB : bitsi.hexB T = true := by unfold bitsi.hexB; rw [hT, h]; rfl
  have hv := dec56 hT h
  have hX : bitsi.hexT T = ⟨(enc 16 14 (dec 2 T.data.toList)).toArray⟩ := by unfold bitsi.hexT; rw [hB, if_pos rfl, h]
  have he := enc_dec 2 (by omega) T.data.toList (bitsi.rd_ok hT).2
  rw [bitsi.len_list, h] at he
  generalize dec 2 T.data.toList = v at *
  have hs : (⟨(enc 16 14 v).toArray⟩ : ByteArray).size = 14 := e_size 16 14 v
  have hr : rdB 16 16 ⟨(enc 16 14 v).toArray⟩ = true := by
    unfold rdB
    rw [hs, show ok 16 (⟨(enc 16 14 v).toArray⟩ : ByteArray).data.toList = true from ok_enc 16 (by omega) (by omega) 14 v]
    rfl
  have hd : dec 16 (⟨(enc 16 14 v).toArray⟩ : ByteArray).data.toList = v := dec_enc 16 (by omega) (by omega) 14 v (by rw [show (16 : Nat) ^ 14 = 72057594037927936 from rfl]; exact hv)
  rw [hX]
  refine ⟨hB, by unfold hexB; rw [hr, hs]; rfl, ?_⟩
  unfold bitsi.unhexT
  rw [hr, if_pos rfl, hs, hd]
  apply aid.str_ext
  exact he
theorem bits_snd {n : Nat} (h : n < 17592186044416) : rdB 2 64 (bitsT n) = true ∧ sndB (bitsT n) = true ∧ syn (bitsT n) = 0 := by
  have hr : rdB 2 64 (bitsT n) = true := by unfold rdB; rw [bits_ok, bits_size]; rfl
  refine ⟨hr, snd_yes hr (by rw [bits_size]; omega), ?_⟩
  unfold syn
  rw [dec_bits h]
  exact code_red
theorem hex_own {n : Nat} (h : n < 17592186044416) : bitsi.hexT (bitsT n) = hexT n := by
  have hr := (bits_snd h).1
  have hB := (hex_back hr (bits_size n)).1
  unfold bitsi.hexT
  rw [hB, if_pos rfl]
  exact frms.hex_of h
/-- What becomes of a frame's hex text, and of the one in which the bit i is wrong. -/
structure Fate (k a d i : Nat) (X T U Y : ByteArray) : Prop where
  hex : hexT (num k a d) = X
  dB : dcB X = true
  dK : dcK X = k
  dA : dcA X = a
  dD : dcD X = d
  un : bitsi.unhexT X = T
  rd : rdB 16 16 X = true
  size : T.size = 56
  fB : bitsi.flipB T (i : Int) = true
  fV : bitsi.flipV T (i : Int) = U
  hB : bitsi.hexB U = true
  hT : bitsi.hexT U = Y
  rB : rfB Y = true
  rK : rfK Y = k
  rA : rfA Y = a
  rD : rfD Y = d
  rI : rfI Y = i
  no : dcB Y = false
theorem fate {k a d i : Nat} (hg : good k a d = true) (hi : i < 56) : ∃ X T U Y, Fate k a d i X T U Y := by
  obtain ⟨k', a', d', e1, e2, e3, h1, h2, h3, h4, h5⟩ := good_nat hg
  obtain rfl : k = k' := by omega
  obtain rfl : a = a' := by omega
  obtain rfl : d = d' := by omega
  clear e1 e2 e3
  have hn := num_lt h2 h4 h5
  obtain ⟨b1, b2, b3⟩ := bits_snd hn
  have hz := bits_size (num k a d)
  obtain ⟨x1, x2, x3⟩ := hex_back b1 hz
  rw [hex_own hn] at x2 x3
  obtain ⟨f1, f2, f3⟩ := fields h2 h4 h5
  have hdG : dG (bitsT (num k a d)) = true := by unfold dG; rw [f1, f2, f3]; exact hg
  obtain ⟨r1, r2, r3, r4, r5, r6, r7⟩ := parm.broken b2 b3 (show i < (bitsT (num k a d)).size by rw [hz]; exact hi)
  have hs3 := snd_of r3
  have hzU : (flipT (bitsT (num k a d)) i).size = 56 := (parr.flip_size (by rw [hz]; exact hi)).trans hz
  obtain ⟨y1, y2, y3⟩ := hex_back hs3.1 hzU
  have hsy : ¬ syn (flipT (bitsT (num k a d)) i) = 0 := fun e => by
    unfold sndV at r4
    rw [r3, e] at r4
    cases r4
  generalize hX : hexT (num k a d) = X at *
  have hdc : dcB X = true := by unfold dcB; rw [x2, x3, b3, hdG]; rfl
  have hrf : rfB (bitsi.hexT (flipT (bitsT (num k a d)) i)) = true := by unfold rfB; rw [y2, y3, r7, r5, hdG]; rfl
  refine ⟨X, bitsT (num k a d), flipT (bitsT (num k a d)) i, bitsi.hexT (flipT (bitsT (num k a d)) i), hX, hdc, ?_, ?_, ?_, x3, ?_, hz, r1, r2, y1, rfl, hrf, ?_, ?_, ?_, ?_, ?_⟩
  · unfold dcK; rw [hdc, x3, if_pos rfl, f1]
  · unfold dcA; rw [hdc, x3, if_pos rfl, f2]
  · unfold dcD; rw [hdc, x3, if_pos rfl, f3]
  · unfold hexB at x2; rw [Bool.and_eq_true] at x2; exact x2.1
  · unfold rfK; rw [hrf, y3, r5, if_pos rfl, f1]
  · unfold rfA; rw [hrf, y3, r5, if_pos rfl, f2]
  · unfold rfD; rw [hrf, y3, r5, if_pos rfl, f3]
  · unfold rfI; rw [hrf, y3, if_pos rfl, r6]
  · unfold dcB; rw [y3, decide_eq_false hsy]; simp
end Go.Proofs.YtpjpdfannnafbaaDoor.frmc
