/- spec's hex texts and exclusive or: l2Hex, l2FromHex, l2Xor. -/
import Derived.Test.YtdjcbfeilkepmaaBitsI
import Derived.Test.YtdjcbfeilkepmaaOwn
import Derived.Laws.IdiomStrings
import Derived.Lib.BufferRead
namespace Go.Proofs.Ytdjcbfeilkepmaa.hexs
open Go.RowKit Go.Proofs.Ytdjcbfeilkepmaa.bin Go.Proofs.Ytdjcbfeilkepmaa.good_ Go.Proofs.Ytdjcbfeilkepmaa.bitsi

theorem cut16 : ∀ d : Nat, d < 16 → ({ data := #[48, 49, 50, 51, 52, 53, 54, 55, 56, 57, 65, 66, 67, 68, 69, 70] } : ByteArray).extract d (d + 1) = ⟨#[ch d]⟩ := by decide +kernel

/-- Four bits more. -/
theorem hex_step (s : ByteArray) (k : Nat) (hk : 4 * k + 4 ≤ s.size) (ho : ok 2 s.data.toList = true) (out : ByteArray) (h : out = ⟨(enc 16 k (dec 2 (s.data.toList.take (4 * k)))).toArray⟩) :
    dec 2 (s.extract (4 * k) (4 * k + 4)).data.toList < 16 ∧ out ++ ({ data := #[48, 49, 50, 51, 52, 53, 54, 55, 56, 57, 65, 66, 67, 68, 69, 70] } : ByteArray).extract (dec 2 (s.extract (4 * k) (4 * k + 4)).data.toList) (dec 2 (s.extract (4 * k) (4 * k + 4)).data.toList + 1)
      = ⟨(enc 16 (k + 1) (dec 2 (s.data.toList.take (4 * (k + 1))))).toArray⟩ := by
  have h1 := dec_lt 2 _ (sub_ok ho (4 * k) (4 * k + 4))
  have h2 : (s.extract (4 * k) (4 * k + 4)).data.toList.length = 4 := by rw [len_list, sub_size s _ _ hk]; omega
  rw [h2] at h1
  have h3 : dec 2 (s.extract (4 * k) (4 * k + 4)).data.toList < 16 := h1
  refine ⟨h3, ?_⟩
  rw [cut16 _ h3, h]
  have e : s.data.toList.take (4 * (k + 1)) = s.data.toList.take (4 * k) ++ (s.extract (4 * k) (4 * k + 4)).data.toList := by
    rw [sub_list, show 4 * k + 4 - 4 * k = 4 by omega, show 4 * (k + 1) = 4 * k + 4 by omega, List.take_add]
  apply aid.str_ext
  rw [aid.str_app, e, dec_app, h2, enc]
  rw [show (2 : Nat) ^ 4 = 16 from rfl, Nat.mul_add_div (by omega), Nat.div_eq_of_lt h3, Nat.mul_add_mod, Nat.mod_eq_of_lt h3]
  rfl

/-- One hex digit more. -/
def FInv (s : ByteArray) (k : Nat) (out : ByteArray) : Prop := out = ⟨(enc 2 (4 * k) (dec 16 (s.data.toList.take k))).toArray⟩ ∧ ok 16 (s.data.toList.take k) = true
theorem finv_step {s : ByteArray} {k : Nat} {out : ByteArray} (h : FInv s k out) (hk : k < s.size) (hd : dv s[k] < 16) : FInv s (k + 1) (out ++ ⟨(enc 2 4 (dv s[k])).toArray⟩) := by
  obtain ⟨h1, h2⟩ := h
  refine ⟨?_, by rw [take_snoc s k hk, ok_snoc, h2, decide_eq_true hd]; rfl⟩
  rw [take_snoc s k hk, dec_snoc, h1]
  apply aid.str_ext
  rw [aid.str_app]
  have e1 := enc_split 2 (4 * k) 4 (16 * dec 16 (s.data.toList.take k) + dv s[k])
  have e2 : (16 * dec 16 (s.data.toList.take k) + dv s[k]) / 2 ^ 4 = dec 16 (s.data.toList.take k) := by rw [show (2 : Nat) ^ 4 = 16 from rfl]; omega
  have e3 := enc_over 2 (by omega) 4 (dv s[k]) (dec 16 (s.data.toList.take k))
  rw [show (2 : Nat) ^ 4 = 16 from rfl, Nat.add_comm] at e3
  rw [e2, e3] at e1
  rw [show 4 * (k + 1) = 4 * k + 4 by omega]
  exact e1.symm
theorem finv_size {s : ByteArray} {k : Nat} {out : ByteArray} (h : FInv s k out) : out.size = 4 * k := by
  rw [h.1]
  exact enc_length _ _ _
theorem finv_end {s : ByteArray} {out : ByteArray} (h : FInv s s.size out) (hs : s.size ≤ 16) : rdB 16 16 s = true ∧ out = ⟨(enc 2 (4 * s.size) (dec 16 s.data.toList)).toArray⟩ := by
  obtain ⟨h1, h2⟩ := h
  rw [List.take_of_length_le (by simp)] at h1 h2
  exact ⟨by unfold rdB; rw [h2, decide_eq_true hs]; rfl, h1⟩
/-- What the search for a digit has found behind k of the sixteen. -/
def fnd (c : UInt8) (k : Nat) : Int := if dv c < k then (dv c : Int) else -1
theorem fnd_hit {c : UInt8} {k : Nat} (hk : k < 16) (h : ((ch k).toNat : Int) = (c.toNat : Int)) : fnd c (k + 1) = (k : Int) := by
  have hc : ch k = c := UInt8.toNat_inj.1 (by omega)
  have hd : dv c = k := by rw [← hc]; exact dv_ch k hk
  unfold fnd
  rw [if_pos (by omega), hd]
theorem fnd_miss {c : UInt8} {k : Nat} (hk : k < 16) (h : ¬ ((ch k).toNat : Int) = (c.toNat : Int)) : fnd c (k + 1) = fnd c k := by
  have hd : dv c ≠ k := by
    intro e
    apply h
    rw [← e, ch_dv c (by omega)]
  unfold fnd
  by_cases h2 : dv c < k
  · rw [if_pos h2, if_pos (by omega)]
  · rw [if_neg h2, if_neg (by omega)]
theorem hexdig (k : Nat) (h : k < 16) : ({ data := #[48, 49, 50, 51, 52, 53, 54, 55, 56, 57, 65, 66, 67, 68, 69, 70] } : ByteArray)[k]'h = ch k := digits_.hexdigit k h

set_option maxHeartbeats 1000000 in
theorem l2FromHex (s : ByteArray) (w : World) (hs0 : s.size ≤ maxLen) :
    Calls Try.prog 164 #[.string s] w fun e w' => e = .returned (.tuple #[.string (unhexT s), .bool (rdB 16 16 s)]) ∧ Below w.heap.size w w' := by
  unfold maxLen at hs0
  have NO := Lib.hid (fun h => @unhex_no s h)
  have YES := Lib.hid (fun h => @unhex_yes s h)
  by_cases hs : (16 : Int) < (s.size : Int)
  · have HN := Lib.hid (NO.out (by unfold rdB; rw [decide_eq_false (by omega)]; rfl))
    go_enter Try.func164, Try.ntmps164
    go_wp2
    go_ret2
    exact ⟨HN.out, Below.refl _ _⟩
  · go_enter Try.func164, Try.ntmps164
    go_wp2
    go_loopw [4, 5, 6, 7] (fun t i _ _ wr => ∃ (k : Nat) (out : ByteArray), k ≤ s.size ∧ i = .int .i64 k ∧ t = .string out ∧ FInv s k out ∧ Below w.heap.size w wr) (fun _ i _ _ _ => s.size - (intOf i).toNat)
    case atStart => exact ⟨0, ⟨#[]⟩, Nat.zero_le _, rfl, rfl, ⟨rfl, rfl⟩, Below.refl _ _⟩
    case round =>
      obtain ⟨k, out, hk, rfl, rfl, hinv, hbw⟩ := hrel
      have HI := Lib.hid hinv
      have HBW := Lib.hid hbw
      clear hinv hbw
      by_cases hlt : k < s.size
      · have hb := byte_lt s[k]
        go_wp2_with fail
        go_loopw [6, 7] (fun n i wx => ∃ (j : Nat) (x : Int), j ≤ 16 ∧ i = .int .i64 j ∧ n = .int .i64 x ∧ x = fnd s[k] j ∧ Below w.heap.size w wx) (fun _ i _ => 16 - (intOf i).toNat)
        case atStart => exact ⟨0, _, Nat.zero_le _, rfl, rfl, rfl, HBW.out⟩
        case round =>
          obtain ⟨j, x, hj, rfl, rfl, hx, hbx⟩ := hrel
          by_cases hj16 : j < 16
          · have g1 : (j : Int) < 16 := by omega
            have g2 : 0 ≤ (j : Int) := by omega
            have hd := hexdig j hj16
            by_cases he : ((ch j).toNat : Int) = (s[k].toNat : Int)
            · have hcmp : (((({ data := #[48, 49, 50, 51, 52, 53, 54, 55, 56, 57, 65, 66, 67, 68, 69, 70] } : ByteArray)[j]'hj16).toNat : Int) == (s[k].toNat : Int)) = true := by rw [hd, he]; simp
              have HX := Lib.hid (fnd_hit hj16 he)
              clear hd he hx
              go_wp2_with fail
              go_quiet (fail)
              go_wp2_with fail
              go_roundw
              case rel => exact ⟨j + 1, _, by omega, by go_num, rfl, HX.out.symm, aid.below_drewN hbx _⟩
              case measure => simp [intOf]; omega
            · have hcmp : (((({ data := #[48, 49, 50, 51, 52, 53, 54, 55, 56, 57, 65, 66, 67, 68, 69, 70] } : ByteArray)[j]'hj16).toNat : Int) == (s[k].toNat : Int)) = false := by rw [hd]; simpa using he
              have HX := Lib.hid (hx.trans (fnd_miss hj16 he).symm)
              clear hd he hx
              go_wp2_with fail
              go_quiet (fail)
              go_wp2_with fail
              go_roundw
              case rel => exact ⟨j + 1, _, by omega, by go_num, rfl, HX.out, aid.below_drewN hbx _⟩
              case measure => simp [intOf]; omega
          · obtain rfl : j = 16 := by omega
            clear HBW
            by_cases hd : dv s[k] < 16
            · have HS := Lib.hid (finv_step HI.out hlt hd)
              have hos := finv_size HI.out
              have hes : (⟨(enc 2 4 (dv s[k])).toArray⟩ : ByteArray).size = 4 := enc_length _ _ _
              have HF := Lib.hid (fun w => ofN (dv s[k]) 4 w (by omega) (by omega))
              have hx2 : x = (dv s[k] : Int) := by rw [hx, fnd, if_pos hd]
              generalize dv s[k] = d at *
              generalize (⟨(enc 2 4 d).toArray⟩ : ByteArray) = t at *
              subst hx2
              have d1 : decide ((d : Int) < 0) = false := decide_eq_false (by omega)
              clear hx hd
              go_wp2_with fail
              refine (HF.out _).mono ?_
              rintro e w' ⟨rfl, rfl⟩
              go_wp2_with fail
              go_roundw
              case rel => exact ⟨k + 1, _, by omega, by go_num, rfl, HS.out, hbx⟩
              case measure => simp [intOf]; omega
            · have HN := Lib.hid (NO.out (by unfold rdB; rw [ok_at hlt hd]; simp))
              obtain rfl : x = -1 := by rw [hx, fnd, if_neg hd]
              clear hx hd
              go_wp2_with fail
              go_ret2
              exact ⟨HN.out, hbx⟩
      · obtain rfl : k = s.size := by omega
        obtain ⟨h1, h2⟩ := finv_end HI.out (by omega)
        have HR := Lib.hid (YES.out h1)
        rw [← h2] at HR
        clear h1 h2
        go_wp2_with fail
        go_ret2
        exact ⟨HR.out, HBW.out⟩

/-- A row of bytes of the call's own as a string. -/
theorem own_string {w : World} {B n : Nat} {v : Value} {l : List UInt8} (h : w.ownsRow B 5 1 v n (Lib.byteCells l)) : (convert 22 9 v).run Try.prog w = .ok (.string ⟨l.toArray⟩) w := by
  have hl : n = l.length := by have := h.1; rw [Lib.byteCells_length] at this; omega
  rcases h.2 with ⟨hv, h0⟩ | ⟨g, cap, cur, hv, _⟩
  · have hnil : l = [] := List.length_eq_zero_iff.1 (by omega)
    subst hnil
    rw [hv]
    exact Lib.run_convert_nil_bytes w 22 9 5 0 Try.underlying22 Try.underlying5 Try.underlying9
  · have hc := fun j x hx => h.cells (g := g) (by rw [hv]; rfl) j x hx
    subst hl
    rw [hv]
    refine run_convert_bytes_back _ _ _ 5 _ cap l Try.underlying22 Try.underlying5 Try.underlying9 ?_
    intro j hj
    refine hc j _ ?_
    unfold Lib.byteCells
    rw [List.getElem?_map, List.getElem?_eq_getElem hj]
    rfl

def zipT (a b : ByteArray) (k : Nat) : List UInt8 := List.zipWith df (a.data.toList.take k) (b.data.toList.take k)
theorem zip_step {a b : ByteArray} {k : Nat} (ha : k < a.size) (hb : k < b.size) : zipT a b (k + 1) = zipT a b k ++ [df a[k] b[k]] := by
  unfold zipT
  rw [take_snoc a k ha, take_snoc b k hb, List.zipWith_append (by rw [List.length_take, List.length_take, len_list, len_list]; omega)]
  rfl
theorem zip_length {a b : ByteArray} {k : Nat} (ha : k ≤ a.size) (hb : k ≤ b.size) : (zipT a b k).length = k := by
  unfold zipT
  rw [List.length_zipWith, List.length_take, List.length_take, len_list, len_list]
  omega
theorem infoB : (Try.prog.info? 5).map (fun i => (i.zero, i.size, i.bytes)) = some (some (.int .u8 0), 1, 1) := by kernel_rfl

end Go.Proofs.Ytdjcbfeilkepmaa.hexs
