/- impl.readDigits and impl.writeDigits in base 2 and 16. -/
import Derived.Test.YtdjcbfeilkepmaaBuild
import Derived.Test.YtdjcbfeilkepmaaPop
import Derived.Test.YtdjcbfeilkepmaaGood
import Derived.Lib.IndexLaws
import Derived.BigQuiet
import Derived.Deep.QuietTactic
namespace Go.Proofs.Ytdjcbfeilkepmaa.digits_
open Go.RowKit Go.Proofs.Ytdjcbfeilkepmaa.bin Go.Proofs.Ytdjcbfeilkepmaa.pop_ Go.Proofs.Ytdjcbfeilkepmaa.build_ Go.Proofs.Ytdjcbfeilkepmaa.good_

theorem rd_no {B m : Nat} {s : ByteArray} (h : rdB B m s = false) : Ending.returned (.tuple #[.int .u64 0, .bool false]) = .returned (.tuple #[.int .u64 (rdV B m s), .bool (rdB B m s)]) := by
  unfold rdV; rw [h]; rfl
theorem rd_yes {B m : Nat} {s : ByteArray} {v : Nat} (h : rdB B m s = true) (hv : v = dec B s.data.toList) : Ending.returned (.tuple #[.int .u64 v, .bool true]) = .returned (.tuple #[.int .u64 (rdV B m s), .bool (rdB B m s)]) := by
  unfold rdV; rw [h, hv]; rfl

theorem index2 : ∀ n : Fin 256, Lib.indexByte [48, 49] (UInt8.ofNat n.val) = if dv (UInt8.ofNat n.val) < 2 then (dv (UInt8.ofNat n.val) : Int) else -1 := by decide +kernel
theorem index16 : ∀ n : Fin 256, Lib.indexByte [48, 49, 50, 51, 52, 53, 54, 55, 56, 57, 65, 66, 67, 68, 69, 70] (UInt8.ofNat n.val) = if dv (UInt8.ofNat n.val) < 16 then (dv (UInt8.ofNat n.val) : Int) else -1 := by decide +kernel
theorem idx2 (c : UInt8) : Lib.indexByte [48, 49] c = if dv c < 2 then (dv c : Int) else -1 := by
  have := index2 ⟨c.toNat, c.toNat_lt⟩
  simpa only [UInt8.ofNat_toNat] using this
theorem idx16 (c : UInt8) : Lib.indexByte [48, 49, 50, 51, 52, 53, 54, 55, 56, 57, 65, 66, 67, 68, 69, 70] c = if dv c < 16 then (dv c : Int) else -1 := by
  have := index16 ⟨c.toNat, c.toNat_lt⟩
  simpa only [UInt8.ofNat_toNat] using this

/-- One digit more. -/
def Inv (B k : Nat) (s : ByteArray) (v : Nat) : Prop := v = dec B (s.data.toList.take k) ∧ ok B (s.data.toList.take k) = true
theorem inv_step {B k v : Nat} {s : ByteArray} (h : Inv B k s v) (hk : k < s.size) (hd : dv s[k] < B) : Inv B (k + 1) s (B * v + dv s[k]) := by
  obtain ⟨h1, h2⟩ := h
  unfold Inv
  rw [take_snoc s k hk, dec_snoc, ok_snoc, h2, decide_eq_true hd, h1]
  exact ⟨rfl, rfl⟩
theorem inv_lt {B k v n : Nat} {s : ByteArray} (h : Inv B k s v) (hB : 0 < B) (hk : k ≤ n) : v < B ^ n := by
  obtain ⟨h1, h2⟩ := h
  have := dec_lt B _ h2
  rw [← h1] at this
  refine Nat.lt_of_lt_of_le this (Nat.pow_le_pow_right hB ?_)
  rw [List.length_take]
  omega
theorem inv_end {B v m : Nat} {s : ByteArray} (h : Inv B s.size s v) (hm : s.size ≤ m) : rdB B m s = true ∧ v = dec B s.data.toList := by
  obtain ⟨h1, h2⟩ := h
  rw [List.take_of_length_le (by simp)] at h1 h2
  exact ⟨by unfold rdB; rw [h2, decide_eq_true hm]; rfl, h1⟩

theorem join2 (v d : Nat) (hv : v < 9223372036854775808) (hd : d < 2) : bits .or .u64 ((v : Int) * 2) (d : Int) = ((2 * v + d : Nat) : Int) := by
  have h := or_nat (2 ^ 1 * v) d (by omega) (by omega)
  rw [← Nat.two_pow_add_eq_or_of_lt (by omega)] at h
  rw [show ((v : Int) * 2) = ((2 ^ 1 * v : Nat) : Int) by omega, h]
theorem join16 (v d : Nat) (hv : v < 1152921504606846976) (hd : d < 16) : bits .or .u64 ((v : Int) * 16) (d : Int) = ((16 * v + d : Nat) : Int) := by
  have h := or_nat (2 ^ 4 * v) d (by omega) (by omega)
  rw [← Nat.two_pow_add_eq_or_of_lt (by omega)] at h
  rw [show ((v : Int) * 16) = ((2 ^ 4 * v : Nat) : Int) by omega, h]

theorem digit2 (c : UInt8) (w : World) : Calls Try.prog 214 #[.string (({ data := #[48, 49, 50, 51, 52, 53, 54, 55, 56, 57, 65, 66, 67, 68, 69, 70] } : ByteArray).extract 0 2), .int .u8 c.toNat] w
    fun e w' => e = .returned (.int .i64 (if dv c < 2 then (dv c : Int) else -1)) ∧ w = w' := by
  refine (Try.strings_IndexByte _ _ w).mono ?_
  rintro e w' ⟨rfl, rfl⟩
  refine ⟨?_, rfl⟩
  rw [Int.toNat_natCast, ← idx2 c]
  have : c.toNat.toUInt8 = c := UInt8.ofNat_toNat
  rw [this]
  rfl
theorem digit16 (c : UInt8) (w : World) : Calls Try.prog 214 #[.string (({ data := #[48, 49, 50, 51, 52, 53, 54, 55, 56, 57, 65, 66, 67, 68, 69, 70] } : ByteArray).extract 0 16), .int .u8 c.toNat] w
    fun e w' => e = .returned (.int .i64 (if dv c < 16 then (dv c : Int) else -1)) ∧ w = w' := by
  refine (Try.strings_IndexByte _ _ w).mono ?_
  rintro e w' ⟨rfl, rfl⟩
  refine ⟨?_, rfl⟩
  rw [Int.toNat_natCast, ← idx16 c]
  have : c.toNat.toUInt8 = c := UInt8.ofNat_toNat
  rw [this]
  rfl

/-- readDigits, a bit a digit. -/
theorem read2 (s : ByteArray) (w : World) :
    Calls Try.prog 196 #[.string s, .int .i64 1] w fun e w' => e = .returned (.tuple #[.int .u64 (rdV 2 64 s), .bool (rdB 2 64 s)]) ∧ w = w' := by
  by_cases h : (64 : Int) < (s.size : Int)
  · have HN := Lib.hid (rd_no (B := 2) (m := 64) (s := s) (by unfold rdB; rw [decide_eq_false (by omega)]; rfl))
    go_enter Try.func196, Try.ntmps196
    go_wp2
    go_ret2
    exact ⟨HN.out, rfl⟩
  · have HN := Lib.hid (fun h => @rd_no 2 64 s h)
    have HY := Lib.hid (fun v h => @rd_yes 2 64 s v h)
    go_enter Try.func196, Try.ntmps196
    go_wp2
    go_loop [7, 8, 9, 20] (fun z _ _ i => ∃ k v : Nat, k ≤ s.size ∧ i = .int .i64 k ∧ z = .int .u64 v ∧ Inv 2 k s v) (fun _ _ _ i => s.size - (intOf i).toNat)
    case atStart => exact ⟨0, 0, Nat.zero_le _, rfl, rfl, rfl, rfl⟩
    case round =>
      obtain ⟨k, v, hk, rfl, rfl, hinv⟩ := hrel
      have HI := Lib.hid hinv
      clear hinv
      by_cases hlt : k < s.size
      · have hb := byte_lt s[k]
        have hdc := digit2 s[k]
        by_cases hd : dv s[k] < 2
        · rw [if_pos hd] at hdc
          have HS := Lib.hid (inv_step HI.out hlt hd)
          have hv := inv_lt (n := 63) HI.out (by omega) (by omega)
          rw [show 2 ^ 63 = 9223372036854775808 from rfl] at hv
          have hj := join2 v _ hv hd
          generalize dv s[k] = d at *
          generalize 2 * v + d = u at *
          have hv2 : (v : Int) < 9223372036854775808 := by omega
          have hd2 : (d : Int) < 2 := by omega
          have hd3 : decide ((d : Int) < 0) = false := decide_eq_false (by omega)
          clear hv hd
          go_wp2_with fail
          refine (hdc _).mono ?_; rintro e w' ⟨rfl, rfl⟩
          go_wp2_with fail
          go_round
          case rel => exact ⟨k + 1, _, by omega, by go_num, rfl, HS.out⟩
          case measure => simp [intOf]; omega
        · rw [if_neg hd] at hdc
          have HB := Lib.hid (HN.out (by unfold rdB; rw [ok_at hlt hd]; simp))
          clear hd
          go_wp2_with (go_at_call 214; refine (hdc _).mono ?_; rintro e w' ⟨rfl, rfl⟩)
          go_ret2
          exact ⟨HB.out, rfl⟩
      · obtain rfl : k = s.size := by omega
        have he := inv_end (m := 64) HI.out (by omega)
        have HB := Lib.hid (HY.out v he.1 he.2)
        clear he
        go_wp2
        go_ret2
        exact ⟨HB.out, rfl⟩

/-- readDigits, four bits a digit. -/
theorem read16 (s : ByteArray) (w : World) :
    Calls Try.prog 196 #[.string s, .int .i64 4] w fun e w' => e = .returned (.tuple #[.int .u64 (rdV 16 16 s), .bool (rdB 16 16 s)]) ∧ w = w' := by
  by_cases h : (16 : Int) < (s.size : Int)
  · have HN := Lib.hid (rd_no (B := 16) (m := 16) (s := s) (by unfold rdB; rw [decide_eq_false (by omega)]; rfl))
    go_enter Try.func196, Try.ntmps196
    go_wp2
    go_ret2
    exact ⟨HN.out, rfl⟩
  · have HN := Lib.hid (fun h => @rd_no 16 16 s h)
    have HY := Lib.hid (fun v h => @rd_yes 16 16 s v h)
    go_enter Try.func196, Try.ntmps196
    go_wp2
    go_loop [7, 8, 9, 20] (fun z _ _ i => ∃ k v : Nat, k ≤ s.size ∧ i = .int .i64 k ∧ z = .int .u64 v ∧ Inv 16 k s v) (fun _ _ _ i => s.size - (intOf i).toNat)
    case atStart => exact ⟨0, 0, Nat.zero_le _, rfl, rfl, rfl, rfl⟩
    case round =>
      obtain ⟨k, v, hk, rfl, rfl, hinv⟩ := hrel
      have HI := Lib.hid hinv
      clear hinv
      by_cases hlt : k < s.size
      · have hb := byte_lt s[k]
        have hdc := digit16 s[k]
        by_cases hd : dv s[k] < 16
        · rw [if_pos hd] at hdc
          have HS := Lib.hid (inv_step HI.out hlt hd)
          have hv := inv_lt (n := 15) HI.out (by omega) (by omega)
          rw [show 16 ^ 15 = 1152921504606846976 from rfl] at hv
          have hj := join16 v _ hv hd
          generalize dv s[k] = d at *
          generalize 16 * v + d = u at *
          have hv2 : (v : Int) < 1152921504606846976 := by omega
          have hd2 : (d : Int) < 16 := by omega
          have hd3 : decide ((d : Int) < 0) = false := decide_eq_false (by omega)
          clear hv hd
          go_wp2_with fail
          refine (hdc _).mono ?_; rintro e w' ⟨rfl, rfl⟩
          go_wp2_with fail
          go_round
          case rel => exact ⟨k + 1, _, by omega, by go_num, rfl, HS.out⟩
          case measure => simp [intOf]; omega
        · rw [if_neg hd] at hdc
          have HB := Lib.hid (HN.out (by unfold rdB; rw [ok_at hlt hd]; simp))
          clear hd
          go_wp2_with (go_at_call 214; refine (hdc _).mono ?_; rintro e w' ⟨rfl, rfl⟩)
          go_ret2
          exact ⟨HB.out, rfl⟩
      · obtain rfl : k = s.size := by omega
        have he := inv_end (m := 16) HI.out (by omega)
        have HB := Lib.hid (HY.out v he.1 he.2)
        clear he
        go_wp2
        go_ret2
        exact ⟨HB.out, rfl⟩

/-- The digits written so far. -/
def W (B n v k : Nat) : List UInt8 := enc B k (v / B ^ (n - k))
theorem w_step {B n v k : Nat} (h : k < n) : W B n v (k + 1) = W B n v k ++ [ch (v / B ^ (n - 1 - k) % B)] := by
  unfold W
  rw [show n - (k + 1) = n - 1 - k by omega, enc_step, show n - 1 - k + 1 = n - k by omega]
theorem w_end (B n v : Nat) : W B n v n = enc B n v := by unfold W; simp
theorem w_length (B n v k : Nat) : (W B n v k).length = k := enc_length _ _ _

theorem hexdigits : ∀ d : Fin 16, ({ data := #[48, 49, 50, 51, 52, 53, 54, 55, 56, 57, 65, 66, 67, 68, 69, 70] } : ByteArray)[d.val]'(d.isLt) = ch d.val := by decide
theorem hexdigit (d : Nat) (h : d < 16) : ({ data := #[48, 49, 50, 51, 52, 53, 54, 55, 56, 57, 65, 66, 67, 68, 69, 70] } : ByteArray)[d]'h = ch d := hexdigits ⟨d, h⟩
theorem holds_drewN {B b : Nat} {l : List UInt8} {w : World} (h : Holds B b l w) (n : Nat) : Holds B b l (w.drewN n) := h
theorem low2 (q : Nat) (h : q < 18446744073709551616) : bits .and .u64 (q : Int) 1 = ((q % 2 : Nat) : Int) := by
  have := and_nat q 1 h (by omega)
  rw [show (1 : Int) = ((1 : Nat) : Int) from rfl, this, show (1 : Nat) = 2 ^ 1 - 1 from rfl, Nat.and_two_pow_sub_one_eq_mod]
theorem low16 (q : Nat) (h : q < 18446744073709551616) : bits .and .u64 (q : Int) 15 = ((q % 16 : Nat) : Int) := by
  have := and_nat q 15 h (by omega)
  rw [show (15 : Int) = ((15 : Nat) : Int) from rfl, this, show (15 : Nat) = 2 ^ 4 - 1 from rfl, Nat.and_two_pow_sub_one_eq_mod]
theorem write2 (v n : Nat) (w : World) (hv : (v : Int) < 18446744073709551616) (hn : (n : Int) ≤ 64) :
    Calls Try.prog 197 #[.int .u64 v, .int .i64 n, .int .i64 1] w fun e w' => e = .returned (.string ⟨(enc 2 n v).toArray⟩) ∧ Below w.heap.size w w' := by
  have H0 := fresh w
  have HV := Lib.hid hv
  clear hv
  go_enter Try.func197, Try.ntmps197
  go_wp2_with fail
  go_loopw [8, 9, 11] (fun _ _ i wr => ∃ k : Nat, k ≤ n ∧ i = .int .i64 k ∧ Holds w.heap.size w.heap.size (W 2 n v k) wr ∧ Below w.heap.size w wr) (fun _ _ i _ => n - (intOf i).toNat)
  case atStart => exact ⟨0, Nat.zero_le _, rfl, H0, (Below.refl _ _).alloc (Nat.le_refl _) _⟩
  case round =>
    obtain ⟨k, hk, rfl, hh, hbw⟩ := hrel
    have HH := Lib.hid hh
    clear hh
    by_cases hlt : k < n
    · have f1 : IntKind.i64.wrap ((n : Int) - 1) = ((n - 1 : Nat) : Int) := (IntWalk.i64_in _ (by omega)).trans (by omega)
      have f2 : IntKind.i64.wrap (((n - 1 : Nat) : Int) - (k : Int)) = ((n - 1 - k : Nat) : Int) := (IntWalk.i64_in _ (by omega)).trans (by omega)
      have f3 : IntKind.i64.wrap ((n - 1 - k : Nat) : Int) = ((n - 1 - k : Nat) : Int) := IntWalk.i64_in _ (by omega)
      have f4 : (v : Int) / 2 ^ (n - 1 - k) = ((v / 2 ^ (n - 1 - k) : Nat) : Int) := by simp
      have f6 : (0 : Int) ≤ ((n - 1 - k : Nat) : Int) := by omega
      have f7 : ((n - 1 - k : Nat) : Int) ≤ 64 := by omega
      generalize hj : n - 1 - k = j at *
      generalize hm : n - 1 = m at *
      have hq : v / 2 ^ j < 18446744073709551616 := by
        have := Nat.div_le_self v (2 ^ j)
        have := HV.out
        omega
      have f5 := low2 (v / 2 ^ j) hq
      have HS := Lib.hid (@w_step 2 n v k hlt)
      have f8 : ((v / 2 ^ j % 2 : Nat) : Int) < 16 := by omega
      have f9 : decide (((v / 2 ^ j % 2 : Nat) : Int) < 0) = false := decide_eq_false (by omega)
      rw [hm, hj] at HS
      clear hq
      generalize v / 2 ^ j % 2 = d at *
      generalize v / 2 ^ j = q at *
      go_wp2_with fail
      go_quiet (fail)
      go_wp2_with fail
      refine (write w.heap.size w.heap.size (W 2 n v k) _ (wr.drewN _) (holds_drewN HH.out _) (by rw [w_length]; omega) (aid.below_drewN hbw _).size).mono ?_
      rintro e w2 ⟨rfl, h2, hb2⟩
      rw [hexdigit _ (by omega), ← HS.out] at h2
      have hb3 := (aid.below_drewN hbw _).trans hb2
      clear HH hb2 hbw f1 f2 f3 f4 f5 f6 f7 f9 H0
      go_wp2_with fail
      go_roundw
      case rel => exact ⟨k + 1, by omega, by go_num, h2, hb3⟩
      case measure => simp [intOf]; omega
    · obtain rfl : k = n := by omega
      have ht := text w.heap.size w.heap.size (W 2 k v k) wr HH.out hbw.size
      rw [w_end] at ht
      go_wp2_with fail
      refine ht.mono ?_
      rintro e w2 ⟨rfl, hb2⟩
      go_wp2_with fail
      go_ret
      exact ⟨rfl, hbw.trans hb2⟩
theorem write16 (v n : Nat) (w : World) (hv : (v : Int) < 18446744073709551616) (hn : (n : Int) ≤ 16) :
    Calls Try.prog 197 #[.int .u64 v, .int .i64 n, .int .i64 4] w fun e w' => e = .returned (.string ⟨(enc 16 n v).toArray⟩) ∧ Below w.heap.size w w' := by
  have H0 := fresh w
  have HV := Lib.hid hv
  clear hv
  go_enter Try.func197, Try.ntmps197
  go_wp2_with fail
  go_loopw [8, 9, 11] (fun _ _ i wr => ∃ k : Nat, k ≤ n ∧ i = .int .i64 k ∧ Holds w.heap.size w.heap.size (W 16 n v k) wr ∧ Below w.heap.size w wr) (fun _ _ i _ => n - (intOf i).toNat)
  case atStart => exact ⟨0, Nat.zero_le _, rfl, H0, (Below.refl _ _).alloc (Nat.le_refl _) _⟩
  case round =>
    obtain ⟨k, hk, rfl, hh, hbw⟩ := hrel
    have HH := Lib.hid hh
    clear hh
    by_cases hlt : k < n
    · have f1 : IntKind.i64.wrap ((n : Int) - 1) = ((n - 1 : Nat) : Int) := (IntWalk.i64_in _ (by omega)).trans (by omega)
      have f2 : IntKind.i64.wrap (((n - 1 : Nat) : Int) - (k : Int)) = ((n - 1 - k : Nat) : Int) := (IntWalk.i64_in _ (by omega)).trans (by omega)
      have f3 : IntKind.i64.wrap (4 * ((n - 1 - k : Nat) : Int)) = ((4 * (n - 1 - k) : Nat) : Int) := (IntWalk.i64_in _ (by omega)).trans (by omega)
      have f4 : (v : Int) / 2 ^ (4 * (n - 1 - k)) = ((v / 16 ^ (n - 1 - k) : Nat) : Int) := by
        rw [show (16 : Nat) = 2 ^ 4 from rfl, ← Nat.pow_mul]; simp
      have f7 : ((4 * (n - 1 - k) : Nat) : Int) ≤ 64 := by omega
      generalize hj : n - 1 - k = j at *
      generalize 4 * j = j4 at *
      generalize hm : n - 1 = m at *
      have hq : v / 16 ^ j < 18446744073709551616 := by
        have := Nat.div_le_self v (16 ^ j)
        have := HV.out
        omega
      have f5 := low16 (v / 16 ^ j) hq
      have HS := Lib.hid (@w_step 16 n v k hlt)
      have f8 : ((v / 16 ^ j % 16 : Nat) : Int) < 16 := by omega
      have f9 : decide (((v / 16 ^ j % 16 : Nat) : Int) < 0) = false := decide_eq_false (by omega)
      rw [hm, hj] at HS
      clear hq
      generalize v / 16 ^ j % 16 = d at *
      generalize v / 16 ^ j = q at *
      go_wp2_with fail
      go_quiet (fail)
      go_wp2_with fail
      refine (write w.heap.size w.heap.size (W 16 n v k) _ (wr.drewN _) (holds_drewN HH.out _) (by rw [w_length]; omega) (aid.below_drewN hbw _).size).mono ?_
      rintro e w2 ⟨rfl, h2, hb2⟩
      rw [hexdigit _ (by omega), ← HS.out] at h2
      have hb3 := (aid.below_drewN hbw _).trans hb2
      clear HH hb2 hbw f1 f2 f3 f4 f5 f7 f9 H0
      go_wp2_with fail
      go_roundw
      case rel => exact ⟨k + 1, by omega, by go_num, h2, hb3⟩
      case measure => simp [intOf]; omega
    · obtain rfl : k = n := by omega
      have ht := text w.heap.size w.heap.size (W 16 k v k) wr HH.out hbw.size
      rw [w_end] at ht
      go_wp2_with fail
      refine ht.mono ?_
      rintro e w2 ⟨rfl, hb2⟩
      go_wp2_with fail
      go_ret
      exact ⟨rfl, hbw.trans hb2⟩
end Go.Proofs.Ytdjcbfeilkepmaa.digits_
