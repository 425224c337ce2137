/- What the laws of chapter 4 ask of sealed and broken bit strings: plain mathematics. -/
import Derived.Test.YtpjpdfannnafbaaDoorParR
namespace Go.Proofs.YtpjpdfannnafbaaDoor.parm
open Go.RowKit Go.Proofs.YtpjpdfannnafbaaDoor.bin Go.Proofs.YtpjpdfannnafbaaDoor.good_ Go.Proofs.YtpjpdfannnafbaaDoor.par Go.Proofs.YtpjpdfannnafbaaDoor.parr

theorem seal_list (s : ByteArray) : (s ++ parL s).data.toList = s.data.toList ++ enc 2 12 (red 64 (dec 2 s.data.toList * 4096)) := aid.str_app _ _
theorem sealed {s : ByteArray} (h : rdB 2 52 s = true) : sndB (s ++ parL s) = true ∧ syn (s ++ parL s) = 0 ∧ strT (s ++ parL s) = s ∧ (s ++ parL s).size ≤ 64 := by
  have hs := bitsi.rd_ok h
  have hz : (parL s).size = 12 := enc_length 2 12 _
  have hsz : (s ++ parL s).size = s.size + 12 := by rw [ByteArray.size_append, hz]
  have hr := red_lt 64 (dec 2 s.data.toList * 4096)
  have hsn : sndB (s ++ parL s) = true := by
    refine snd_yes ?_ (by omega)
    unfold rdB
    rw [seal_list, ok_app, hs.2, ok_enc 2 (by omega) (by omega), decide_eq_true (by omega)]
    rfl
  have hd : dec 2 (s ++ parL s).data.toList = dec 2 s.data.toList * 4096 + red 64 (dec 2 s.data.toList * 4096) := by
    have h1 := dec_app 2 s.data.toList (enc 2 12 (red 64 (dec 2 s.data.toList * 4096)))
    have h2 := dec_enc 2 (by omega) (by omega) 12 (red 64 (dec 2 s.data.toList * 4096)) (by omega)
    rw [enc_length, h2] at h1
    rw [seal_list, h1, show 2 ^ 12 = 4096 from rfl, Nat.mul_comm]
  have h0 : syn (s ++ parL s) = 0 := by
    unfold syn
    rw [hd, glue _ _ hr, red_xor, red_small 64 (red 64 (dec 2 s.data.toList * 4096)) hr (by omega), Nat.xor_self]
  have hv : sndV (s ++ parL s) = true := by unfold sndV; rw [hsn, decide_eq_true h0]; rfl
  refine ⟨hsn, h0, ?_, by omega⟩
  unfold strT
  rw [hv, if_pos rfl, hsz, show s.size + 12 - 12 = s.size by omega]
  apply aid.str_ext
  rw [bitsi.sub_list, seal_list, List.drop_zero, Nat.sub_zero, ← bitsi.len_list s, List.take_append_of_le_length (Nat.le_refl _), List.take_length]

theorem rep_parts {s : ByteArray} {k : Nat} (hs : sndB s = true) (h0 : syn s ≠ 0) (hk : k < s.size) (hp : pat (s.size - 1 - k) = syn s) (h64 : s.size ≤ 64) : repT s = flipT s k ∧ repI s = k ∧ repB s = true := by
  have hh : has s.size (syn s) = true := (has_iff _ _).2 ⟨s.size - 1 - k, by omega, hp⟩
  have hpl := place_eq h64 (show s.size - 1 - k < s.size by omega) hp
  have hK : repK s = k := by unfold repK; rw [hpl]; omega
  have hb : repB s = true := by unfold repB; rw [hs, hh]; simp
  unfold repT repI
  rw [hb, if_pos rfl, if_pos rfl, if_neg h0, if_neg h0, hK]
  exact ⟨rfl, rfl, rfl⟩
theorem flip_flip {t : ByteArray} {i : Nat} (h : rdB 2 64 t = true) (hi : i < t.size) (h2 : rdB 2 64 (flipT t i) = true) : flipT (flipT t i) i = t := by
  have hz := flip_size hi
  have h3 := bitsi.flip_text i h2 (by omega)
  have h4 := enc_dec 2 (by omega) t.data.toList (bitsi.rd_ok h).2
  rw [bitsi.len_list] at h4
  apply aid.str_ext
  rw [← h3, (flip_dec h hi).2, hz, Nat.xor_assoc, Nat.xor_self, Nat.xor_zero, h4]
/-- A sound bit string with the bit i flipped: not sound, and repaired. -/
theorem broken {t : ByteArray} {i : Nat} (hs : sndB t = true) (h0 : syn t = 0) (hi : i < t.size) :
    bitsi.flipB t (i : Int) = true ∧ bitsi.flipV t (i : Int) = flipT t i ∧ sndB (flipT t i) = true ∧ sndV (flipT t i) = false ∧ repT (flipT t i) = t ∧ repI (flipT t i) = i ∧ repB (flipT t i) = true := by
  have hr := snd_of hs
  have h64 := (bitsi.rd_ok hr.1).1
  have hfb : bitsi.flipB t (i : Int) = true := by unfold bitsi.flipB; rw [hr.1, decide_eq_true (by omega)]; rfl
  have hfv : bitsi.flipV t (i : Int) = flipT t i := by unfold bitsi.flipV; rw [hfb, Int.toNat_natCast]; rfl
  have hus := flip_snd hs hi
  have huz := flip_size hi
  have hsy : syn (flipT t i) = pat (t.size - 1 - i) := by rw [flip_syn hs hi, h0, Nat.zero_xor]
  have hne : syn (flipT t i) ≠ 0 := by rw [hsy]; exact pat_ne (by omega)
  have hrp := rep_parts hus hne (k := i) (by omega) (by rw [huz, hsy]) (by omega)
  rw [flip_flip hr.1 hi (snd_of hus).1] at hrp
  exact ⟨hfb, hfv, hus, by unfold sndV; rw [hus, decide_eq_false hne]; rfl, hrp⟩

/-- The syndrome of a flipped bit string is the exclusive or with the bit's pattern. -/
theorem bits12 (v : Nat) : rdB 2 64 ⟨(enc 2 12 v).toArray⟩ = true := by
  unfold rdB
  rw [show (⟨(enc 2 12 v).toArray⟩ : ByteArray).size = 12 from enc_length 2 12 v, show ok 2 (⟨(enc 2 12 v).toArray⟩ : ByteArray).data.toList = true from ok_enc 2 (by omega) (by omega) _ _]
  rfl
theorem xor12 (a b : Nat) : bitsi.xorB ⟨(enc 2 12 a).toArray⟩ ⟨(enc 2 12 b).toArray⟩ = true ∧ bitsi.xorT ⟨(enc 2 12 a).toArray⟩ ⟨(enc 2 12 b).toArray⟩ = ⟨(enc 2 12 (a ^^^ b)).toArray⟩ := by
  have hb : bitsi.xorB ⟨(enc 2 12 a).toArray⟩ ⟨(enc 2 12 b).toArray⟩ = true := by
    unfold bitsi.xorB
    rw [bits12, bits12, decide_eq_true (show (⟨(enc 2 12 a).toArray⟩ : ByteArray).size = (⟨(enc 2 12 b).toArray⟩ : ByteArray).size from (enc_length 2 12 a).trans (enc_length 2 12 b).symm)]
    rfl
  refine ⟨hb, ?_⟩
  unfold bitsi.xorT
  rw [hb, if_pos rfl, enc_xor]
theorem turned {s : ByteArray} {i : Nat} (hs : sndB s = true) (hi : i < s.size) :
    bitsi.flipB s (i : Int) = true ∧ bitsi.flipV s (i : Int) = flipT s i ∧ sndB (flipT s i) = true ∧ synT s = ⟨(enc 2 12 (syn s)).toArray⟩ ∧ synT (flipT s i) = ⟨(enc 2 12 (syn s ^^^ pat (s.size - 1 - i))).toArray⟩ ∧
      ptB (s.size : Int) (i : Int) = true ∧ ptT (s.size : Int) (i : Int) = ⟨(enc 2 12 (pat (s.size - 1 - i))).toArray⟩ := by
  have hr := snd_of hs
  have h64 := (bitsi.rd_ok hr.1).1
  have hfb : bitsi.flipB s (i : Int) = true := by unfold bitsi.flipB; rw [hr.1, decide_eq_true (by omega)]; rfl
  have hus := flip_snd hs hi
  have hpb : ptB (s.size : Int) (i : Int) = true := decide_eq_true (by omega)
  refine ⟨hfb, by unfold bitsi.flipV; rw [hfb, Int.toNat_natCast]; rfl, hus, by unfold synT; rw [hs]; rfl, by unfold synT; rw [hus, flip_syn hs hi]; rfl, hpb, ?_⟩
  unfold ptT
  rw [hpb, if_pos rfl, show ((s.size : Int) - 1 - (i : Int)).toNat = s.size - 1 - i by omega]

/-- How many flips, sound or not, repaired or not: the three cases. -/
theorem cases3 {s : ByteArray} (hs : sndB s = true) :
    (wkV s = 0 ∧ sndV s = true ∧ repB s = true ∧ repI s = -1) ∨ (wkV s = 1 ∧ sndV s = false ∧ repB s = true ∧ 0 ≤ repI s ∧ repI s ≤ 64) ∨ (∃ n, wkV s = n + 2 ∧ n ≤ 1 ∧ sndV s = false ∧ repB s = false ∧ repI s = 0) := by
  have h64 := (bitsi.rd_ok (snd_of hs).1).1
  have hw : wkV s = weak s.size (syn s) := by unfold wkV; rw [hs]; rfl
  by_cases h0 : syn s = 0
  · have hb : repB s = true := by unfold repB; rw [hs, decide_eq_true h0]; rfl
    refine .inl ⟨by rw [hw, h0, weak0], by unfold sndV; rw [hs, decide_eq_true h0]; rfl, hb, ?_⟩
    unfold repI
    rw [hb, if_pos rfl, if_pos h0]
  · have hv : sndV s = false := by unfold sndV; rw [hs, decide_eq_false h0]; rfl
    cases hh : has s.size (syn s)
    · have hb : repB s = false := by unfold repB; rw [hs, hh, decide_eq_false h0]; rfl
      have hi : repI s = 0 := by unfold repI; rw [hb]; rfl
      cases ht : two s.size (syn s)
      · exact .inr (.inr ⟨1, by rw [hw, weak3 h0 hh ht], Nat.le_refl _, hv, hb, hi⟩)
      · exact .inr (.inr ⟨0, by rw [hw, weak2 h0 hh ht], Nat.zero_le _, hv, hb, hi⟩)
    · have hb : repB s = true := by unfold repB; rw [hs, hh]; simp
      refine .inr (.inl ⟨by rw [hw, weak1 h0 hh], hv, hb, ?_⟩)
      unfold repI repK
      rw [hb, if_pos rfl, if_neg h0]
      omega
end Go.Proofs.YtpjpdfannnafbaaDoor.parm
