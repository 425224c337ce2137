/- The contracts of chapter 2's functions of impl, in the words of plain mathematics. -/
import Derived.Test.YtdjcbfeilkepmaaDigits
namespace Go.Proofs.Ytdjcbfeilkepmaa.bitsi
open Go.RowKit Go.Proofs.Ytdjcbfeilkepmaa.bin Go.Proofs.Ytdjcbfeilkepmaa.pop_ Go.Proofs.Ytdjcbfeilkepmaa.good_ Go.Proofs.Ytdjcbfeilkepmaa.digits_

/-- The bit string of a number; is there one? -/
def bofB (n m : Int) : Bool := decide (0 ≤ m ∧ m ≤ 30 ∧ 0 ≤ n ∧ n.toNat < 2 ^ m.toNat)
def bofT (n m : Int) : ByteArray := if bofB n m then ⟨(enc 2 m.toNat n.toNat).toArray⟩ else ⟨#[]⟩
def numV (s : ByteArray) : Nat := if rdB 2 30 s then dec 2 s.data.toList else 0
/-- Where two bit strings differ. -/
def xorB (a b : ByteArray) : Bool := rdB 2 64 a && rdB 2 64 b && decide (a.size = b.size)
def xorT (a b : ByteArray) : ByteArray := if xorB a b then ⟨(List.zipWith df a.data.toList b.data.toList).toArray⟩ else ⟨#[]⟩
def onesV (s : ByteArray) : Nat := if rdB 2 64 s then ones s.data.toList else 0
def flipB (s : ByteArray) (i : Int) : Bool := rdB 2 64 s && decide (0 ≤ i ∧ i < s.size)
def flipV (s : ByteArray) (i : Int) : ByteArray := if flipB s i then flipT s i.toNat else ⟨#[]⟩
def hexB (s : ByteArray) : Bool := rdB 2 64 s && decide (s.size % 4 = 0)
def hexT (s : ByteArray) : ByteArray := if hexB s then ⟨(enc 16 (s.size / 4) (dec 2 s.data.toList)).toArray⟩ else ⟨#[]⟩
def unhexT (s : ByteArray) : ByteArray := if rdB 16 16 s then ⟨(enc 2 (4 * s.size) (dec 16 s.data.toList)).toArray⟩ else ⟨#[]⟩
def fldB (s : ByteArray) (f m : Int) : Bool := rdB 2 64 s && decide (1 ≤ m ∧ m ≤ 30 ∧ 0 ≤ f ∧ f + m ≤ s.size)
def fldV (s : ByteArray) (f m : Int) : Nat := if fldB s f m then dec 2 (s.extract f.toNat (f + m).toNat).data.toList else 0

theorem str_no {b : Bool} {t : ByteArray} (h : b = false) : Ending.returned (.tuple #[.string ⟨#[]⟩, .bool false]) = .returned (.tuple #[.string (if b then t else ⟨#[]⟩), .bool b]) := by subst h; rfl
theorem str_yes {b : Bool} {t u : ByteArray} (h : b = true) (ht : u = t) : Ending.returned (.tuple #[.string u, .bool true]) = .returned (.tuple #[.string (if b then t else ⟨#[]⟩), .bool b]) := by subst h; subst ht; rfl
theorem int_no {b : Bool} {t : Nat} (h : b = false) : Ending.returned (.tuple #[.int .i64 0, .bool false]) = .returned (.tuple #[.int .i64 ((if b then t else 0 : Nat) : Int), .bool b]) := by subst h; rfl
theorem int_yes {b : Bool} {t : Nat} {u : Int} (h : b = true) (ht : u = (t : Int)) : Ending.returned (.tuple #[.int .i64 u, .bool true]) = .returned (.tuple #[.int .i64 ((if b then t else 0 : Nat) : Int), .bool b]) := by subst h; subst ht; rfl

theorem num_no (s : ByteArray) (h : rdB 2 30 s = false) : Ending.returned (.tuple #[.int .i64 0, .bool false]) = .returned (.tuple #[.int .i64 (numV s), .bool (rdB 2 30 s)]) := int_no h
theorem num_yes (s : ByteArray) {u : Int} (h : rdB 2 30 s = true) (ht : u = (dec 2 s.data.toList : Nat)) : Ending.returned (.tuple #[.int .i64 u, .bool true]) = .returned (.tuple #[.int .i64 (numV s), .bool (rdB 2 30 s)]) := int_yes h ht
theorem isBits (s : ByteArray) (w : World) : Calls Try.prog 218 #[.string s] w fun e w' => e = .returned (.bool (rdB 2 64 s)) ∧ w = w' := by
  have HC := Lib.hid (fun w => read2 s w)
  generalize rdV 2 64 s = v at HC
  generalize rdB 2 64 s = b at *
  go_enter Try.func218, Try.ntmps218
  go_wp2_with (go_at_call 196; refine (HC.out _).mono ?_; rintro e w' ⟨rfl, rfl⟩)
  go_ret
  exact ⟨rfl, rfl⟩

theorem rd_part {B m n : Nat} {s : ByteArray} (h : m ≤ n) : rdB B m s = (rdB B n s && decide (s.size ≤ m)) := by
  unfold rdB
  by_cases h1 : s.size ≤ m
  · rw [decide_eq_true h1, decide_eq_true (by omega)]; simp
  · rw [decide_eq_false h1]; simp
theorem rdV_yes {B m : Nat} {s : ByteArray} (h : rdB B m s = true) : rdV B m s = dec B s.data.toList := by unfold rdV; rw [h]; rfl
theorem rd_ok {B m : Nat} {s : ByteArray} (h : rdB B m s = true) : s.size ≤ m ∧ ok B s.data.toList = true := by
  unfold rdB at h
  simpa using h
theorem len_list (s : ByteArray) : s.data.toList.length = s.size := by simp [← ByteArray.size_data]

theorem numberOf (s : ByteArray) (w : World) : Calls Try.prog 219 #[.string s] w
    fun e w' => e = .returned (.tuple #[.int .i64 (numV s), .bool (rdB 2 30 s)]) ∧ w = w' := by
  have hc := fun w => read2 s w
  have hp := rd_part (B := 2) (m := 30) (n := 64) (s := s) (by omega)
  cases hb : rdB 2 64 s
  · have HN := Lib.hid (num_no s (by rw [hp, hb]; rfl))
    rw [hb] at hc
    have HC := Lib.hid hc
    clear hc hp hb
    go_enter Try.func219, Try.ntmps219
    go_wp2_with (go_at_call 196; refine (HC.out _).mono ?_; rintro e w' ⟨rfl, rfl⟩)
    go_ret2
    exact ⟨HN.out, rfl⟩
  · rw [hb, rdV_yes hb] at hc
    by_cases hs : s.size ≤ 30
    · have hd : decide ((30 : Int) < (s.size : Int)) = false := decide_eq_false (by omega)
      have hl := dec_lt 2 s.data.toList (rd_ok hb).2
      have hl2 : (2 : Nat) ^ s.data.toList.length ≤ 2 ^ 30 := Nat.pow_le_pow_right (by omega) (by rw [len_list]; exact hs)
      have hv : ((dec 2 s.data.toList : Nat) : Int) < 1073741824 := by omega
      have HN := Lib.hid (num_yes s (by rw [hp, hb, decide_eq_true hs]; rfl) rfl)
      have HC := Lib.hid hc
      clear hc hp hb hl hl2 hs
      generalize dec 2 s.data.toList = v at *
      go_enter Try.func219, Try.ntmps219
      go_wp2_with (go_at_call 196; refine (HC.out _).mono ?_; rintro e w' ⟨rfl, rfl⟩)
      go_ret2
      exact ⟨HN.out, rfl⟩
    · have hd : decide ((30 : Int) < (s.size : Int)) = true := decide_eq_true (by omega)
      have HN := Lib.hid (num_no s (by rw [hp, hb, decide_eq_false hs]; rfl))
      have HC := Lib.hid hc
      clear hc hp hb hs
      generalize dec 2 s.data.toList = v at *
      go_enter Try.func219, Try.ntmps219
      go_wp2_with (go_at_call 196; refine (HC.out _).mono ?_; rintro e w' ⟨rfl, rfl⟩)
      go_ret2
      exact ⟨HN.out, rfl⟩

theorem dec64 {s : ByteArray} (h : rdB 2 64 s = true) : dec 2 s.data.toList < 18446744073709551616 := by
  have hl := dec_lt 2 s.data.toList (rd_ok h).2
  have hl2 : (2 : Nat) ^ s.data.toList.length ≤ 2 ^ 64 := Nat.pow_le_pow_right (by omega) (by rw [len_list]; exact (rd_ok h).1)
  omega

theorem bof_no {n m : Int} (h : bofB n m = false) : Ending.returned (.tuple #[.string ⟨#[]⟩, .bool false]) = .returned (.tuple #[.string (bofT n m), .bool (bofB n m)]) := str_no h
theorem bof_yes {n m : Int} (h : bofB n m = true) : Ending.returned (.tuple #[.string ⟨(enc 2 m.toNat n.toNat).toArray⟩, .bool true]) = .returned (.tuple #[.string (bofT n m), .bool (bofB n m)]) := str_yes h rfl

theorem xor_no {a b : ByteArray} (h : xorB a b = false) : Ending.returned (.tuple #[.string ⟨#[]⟩, .bool false]) = .returned (.tuple #[.string (xorT a b), .bool (xorB a b)]) := str_no h
theorem xor_yes {a b u : ByteArray} (h : xorB a b = true) (hu : u.data.toList = List.zipWith df a.data.toList b.data.toList) : Ending.returned (.tuple #[.string u, .bool true]) = .returned (.tuple #[.string (xorT a b), .bool (xorB a b)]) :=
  str_yes h (aid.str_ext hu)
theorem xor_text {a b : ByteArray} (ha : rdB 2 64 a = true) (hb : rdB 2 64 b = true) (h : a.size = b.size) : enc 2 a.size (dec 2 a.data.toList ^^^ dec 2 b.data.toList) = List.zipWith df a.data.toList b.data.toList := by
  have e1 := enc_dec 2 (by omega) a.data.toList (rd_ok ha).2
  have e2 := enc_dec 2 (by omega) b.data.toList (rd_ok hb).2
  rw [len_list] at e1 e2
  rw [enc_xor, e1, h, e2]

theorem flip_no {s : ByteArray} {i : Int} (h : flipB s i = false) : Ending.returned (.tuple #[.string ⟨#[]⟩, .bool false]) = .returned (.tuple #[.string (flipV s i), .bool (flipB s i)]) := str_no h
theorem flip_yes {s u : ByteArray} {i : Int} (h : flipB s i = true) (hu : u = flipT s i.toNat) : Ending.returned (.tuple #[.string u, .bool true]) = .returned (.tuple #[.string (flipV s i), .bool (flipB s i)]) := str_yes h hu
theorem set_parts : ∀ (l : List UInt8) (i : Nat) (c : UInt8), i < l.length → l.set i c = l.take i ++ [c] ++ l.drop (i + 1)
  | [], _, _, h => absurd h (Nat.not_lt_zero _)
  | _ :: _, 0, _, _ => rfl
  | x :: l, i + 1, c, h => by
    have := set_parts l i c (by simpa using h)
    simp [this]
theorem flip_list (s : ByteArray) (i : Nat) (h : i < s.size) : (flipT s i).data.toList = s.data.toList.set i (fl (s.data.toList.getD i 0)) := by
  unfold flipT
  rw [aid.str_app, aid.str_app, set_parts _ _ _ (by rw [len_list]; exact h)]
  have e1 : (s.extract 0 i).data.toList = s.data.toList.take i := by simp [ByteArray.data_extract]
  have e2 : (s.extract (i + 1) s.size).data.toList = s.data.toList.drop (i + 1) := by
    simp [ByteArray.data_extract]
    rw [List.take_of_length_le (by simp)]
  rw [e1, e2]
theorem flip_text {s : ByteArray} (i : Nat) (hs : rdB 2 64 s = true) (h : i < s.size) : enc 2 s.size (dec 2 s.data.toList ^^^ 2 ^ (s.size - 1 - i)) = (flipT s i).data.toList := by
  have e1 := enc_dec 2 (by omega) s.data.toList (rd_ok hs).2
  rw [len_list] at e1
  have e2 := enc_at 2 s.size (dec 2 s.data.toList) i h
  rw [enc_flip _ _ _ (by omega), flip_list s i h, e1, show s.size - 1 - (s.size - 1 - i) = i by omega, ← fl_ch]
  rw [e1] at e2
  rw [List.getD_eq_getElem?_getD, e2]
  rfl

theorem wrap_pow {j : Nat} (h : 2 ^ j < 18446744073709551616) : IntKind.u64.wrap ((2 : Int) ^ j) = ((2 ^ j : Nat) : Int) := by
  have e : (2 : Int) ^ j = ((2 ^ j : Nat) : Int) := by simp
  rw [e]
  clear e
  generalize (2 : Nat) ^ j = p at *
  exact IntWalk.u64_in _ (by omega)
theorem flipBit (s : ByteArray) (i : Int) (w : World) : Calls Try.prog 201 #[.string s, .int .i64 i] w
    fun e w' => e = .returned (.tuple #[.string (flipV s i), .bool (flipB s i)]) ∧ Below w.heap.size w w' := by
  have hc := fun w => read2 s w
  cases hb : rdB 2 64 s
  · have HN := Lib.hid (flip_no (s := s) (i := i) (by unfold flipB; rw [hb]; rfl))
    rw [hb] at hc
    have HC := Lib.hid hc
    clear hc hb
    generalize rdV 2 64 s = v at *
    go_enter Try.func201, Try.ntmps201
    go_wp2_with (go_at_call 196; refine (HC.out _).mono ?_; rintro e w' ⟨rfl, rfl⟩)
    go_ret2
    exact ⟨HN.out, Below.refl _ _⟩
  · rw [hb] at hc
    by_cases h1 : i < 0
    · have d1 : decide (i < 0) = true := decide_eq_true h1
      have HN := Lib.hid (flip_no (s := s) (i := i) (by unfold flipB; rw [decide_eq_false (by omega)]; simp))
      have HC := Lib.hid hc
      clear hc hb h1
      generalize rdV 2 64 s = v at *
      go_enter Try.func201, Try.ntmps201
      go_wp2_with (go_at_call 196; refine (HC.out _).mono ?_; rintro e w' ⟨rfl, rfl⟩)
      go_ret2
      exact ⟨HN.out, Below.refl _ _⟩
    · have d1 : decide (i < 0) = false := decide_eq_false h1
      by_cases h2 : (s.size : Int) ≤ i
      · have d2 : decide ((s.size : Int) ≤ i) = true := decide_eq_true h2
        have HN := Lib.hid (flip_no (s := s) (i := i) (by unfold flipB; rw [decide_eq_false (by omega)]; simp))
        have HC := Lib.hid hc
        clear hc hb h1 h2
        generalize rdV 2 64 s = v at *
        go_enter Try.func201, Try.ntmps201
        go_wp2_with (go_at_call 196; refine (HC.out _).mono ?_; rintro e w' ⟨rfl, rfl⟩)
        go_ret2
        exact ⟨HN.out, Below.refl _ _⟩
      · have d2 : decide ((s.size : Int) ≤ i) = false := decide_eq_false h2
        obtain ⟨k, rfl⟩ := Int.eq_ofNat_of_zero_le (show 0 ≤ i by omega)
        have hfb : flipB s (k : Int) = true := by unfold flipB; rw [hb, decide_eq_true (by omega)]; rfl
        have HY := Lib.hid (fun u h => flip_yes (u := u) hfb h)
        have d3 : decide (s.size ≤ k) = false := decide_eq_false (by omega)
        have hsz := (rd_ok hb).1
        have hv := dec64 hb
        have hp : 2 ^ (s.size - 1 - k) < 18446744073709551616 := by
          have : (2 : Nat) ^ (s.size - 1 - k) ≤ 2 ^ 63 := Nat.pow_le_pow_right (by omega) (by omega)
          omega
        have ht := flip_text k hb (by omega)
        rw [rdV_yes hb] at hc
        have f1 : IntKind.i64.wrap ((s.size : Int) - 1) = ((s.size - 1 : Nat) : Int) := (IntWalk.i64_in _ (by omega)).trans (by omega)
        have f2 : IntKind.i64.wrap (((s.size - 1 : Nat) : Int) - (k : Int)) = ((s.size - 1 - k : Nat) : Int) := (IntWalk.i64_in _ (by omega)).trans (by omega)
        have f3 := wrap_pow hp
        have f4 : ((s.size - 1 - k : Nat) : Int) ≤ 64 := by omega
        have hx := xor_nat _ _ hv hp
        have hxl : (dec 2 s.data.toList ^^^ 2 ^ (s.size - 1 - k)) < 18446744073709551616 := Nat.xor_lt_two_pow (n := 64) hv hp
        generalize dec 2 s.data.toList = v at *
        generalize s.size - 1 - k = j at *
        generalize s.size - 1 = m at *
        generalize 2 ^ j = p at f3 hx hxl ht
        generalize v ^^^ p = x at *
        have HW := Lib.hid (fun w => write2 x s.size w (by omega) (by omega))
        rw [ht] at HW
        have HC := Lib.hid hc
        clear hc hb h1 h2 hv hp hxl ht hsz hfb
        go_enter Try.func201, Try.ntmps201
        go_wp2_with fail
        refine (HC.out _).mono ?_
        rintro e w' ⟨rfl, rfl⟩
        go_wp2_with fail
        refine (HW.out _).mono ?_
        rintro e w' ⟨rfl, hbl⟩
        go_wp2_with fail
        go_ret2
        exact ⟨HY.out _ (by rw [Int.toNat_natCast]), hbl⟩

theorem hex_no {s : ByteArray} (h : hexB s = false) : Ending.returned (.tuple #[.string ⟨#[]⟩, .bool false]) = .returned (.tuple #[.string (hexT s), .bool (hexB s)]) := str_no h
theorem hex_yes {s : ByteArray} (h : hexB s = true) : Ending.returned (.tuple #[.string ⟨(enc 16 (s.size / 4) (dec 2 s.data.toList)).toArray⟩, .bool true]) = .returned (.tuple #[.string (hexT s), .bool (hexB s)]) := str_yes h rfl

theorem unhex_no {s : ByteArray} (h : rdB 16 16 s = false) : Ending.returned (.tuple #[.string ⟨#[]⟩, .bool false]) = .returned (.tuple #[.string (unhexT s), .bool (rdB 16 16 s)]) := str_no h
theorem unhex_yes {s : ByteArray} (h : rdB 16 16 s = true) : Ending.returned (.tuple #[.string ⟨(enc 2 (4 * s.size) (dec 16 s.data.toList)).toArray⟩, .bool true]) = .returned (.tuple #[.string (unhexT s), .bool (rdB 16 16 s)]) := str_yes h rfl

theorem bitsFromHex (s : ByteArray) (w : World) : Calls Try.prog 170 #[.string s] w
    fun e w' => e = .returned (.tuple #[.string (unhexT s), .bool (rdB 16 16 s)]) ∧ Below w.heap.size w w' := by
  have hc := fun w => read16 s w
  cases hb : rdB 16 16 s
  · have HN := Lib.hid (unhex_no hb)
    rw [hb] at hc HN
    have HC := Lib.hid hc
    clear hc hb
    generalize rdV 16 16 s = v at *
    go_enter Try.func170, Try.ntmps170
    go_wp2_with (go_at_call 196; refine (HC.out _).mono ?_; rintro e w' ⟨rfl, rfl⟩)
    go_ret2
    exact ⟨HN.out, Below.refl _ _⟩
  · have HY := Lib.hid (unhex_yes hb)
    rw [hb] at hc HY
    rw [rdV_yes hb] at hc
    have hsz := (rd_ok hb).1
    have hv : dec 16 s.data.toList < 18446744073709551616 := by
      have hl := dec_lt 16 s.data.toList (rd_ok hb).2
      have hl2 : (16 : Nat) ^ s.data.toList.length ≤ 16 ^ 16 := Nat.pow_le_pow_right (by omega) (by rw [len_list]; exact hsz)
      omega
    have e1 : IntKind.i64.wrap (4 * (s.size : Int)) = ((4 * s.size : Nat) : Int) := (IntWalk.i64_in _ (by omega)).trans (by omega)
    have e2 : IntKind.i64.wrap ((s.size : Int) * 4) = ((4 * s.size : Nat) : Int) := (IntWalk.i64_in _ (by omega)).trans (by omega)
    have HW := Lib.hid (fun w => write2 (dec 16 s.data.toList) (4 * s.size) w (by omega) (by omega))
    have HC := Lib.hid hc
    clear hc hb hv hsz
    generalize dec 16 s.data.toList = v at *
    generalize 4 * s.size = q at *
    go_enter Try.func170, Try.ntmps170
    go_wp2_with fail
    refine (HC.out _).mono ?_
    rintro e w' ⟨rfl, rfl⟩
    go_wp2_with fail
    refine (HW.out _).mono ?_
    rintro e w' ⟨rfl, hbl⟩
    go_wp2_with fail
    go_ret2
    exact ⟨HY.out, hbl⟩

theorem sub_list (s : ByteArray) (a b : Nat) : (s.extract a b).data.toList = (s.data.toList.drop a).take (b - a) := by
  obtain ⟨⟨l⟩⟩ := s
  rw [show (⟨⟨l⟩⟩ : ByteArray) = ByteArray.mk l.toArray from rfl, Go.ByteArray.extract_mk]
theorem sub_ok {B : Nat} {s : ByteArray} (h : ok B s.data.toList = true) (a b : Nat) : ok B (s.extract a b).data.toList = true := by
  rw [sub_list]
  refine take_ok ?_ _
  have e : ok B (s.data.toList.take a ++ s.data.toList.drop a) = true := by rw [List.take_append_drop]; exact h
  rw [ok_app, Bool.and_eq_true] at e
  exact e.2
theorem sub_size (s : ByteArray) (a b : Nat) (h : b ≤ s.size) : (s.extract a b).size = b - a := by
  rw [ByteArray.size_extract, Nat.min_eq_left h]

theorem fld_no {s : ByteArray} {f m : Int} (h : fldB s f m = false) : Ending.returned (.tuple #[.int .i64 0, .bool false]) = .returned (.tuple #[.int .i64 (fldV s f m), .bool (fldB s f m)]) := int_no h
theorem fld_num {s : ByteArray} {f m : Int} (h : rdB 2 64 s = true) (h1 : 1 ≤ m) (h2 : 0 ≤ f) (h3 : f + m ≤ s.size) :
    Ending.returned (.tuple #[.int .i64 (numV (s.extract f.toNat (f + m).toNat)), .bool (rdB 2 30 (s.extract f.toNat (f + m).toNat))]) = .returned (.tuple #[.int .i64 (fldV s f m), .bool (fldB s f m)]) := by
  have hsz := sub_size s f.toNat (f + m).toNat (by omega)
  have hok := sub_ok (rd_ok h).2 f.toNat (f + m).toNat
  unfold numV fldV
  by_cases hm : m ≤ 30
  · have e1 : rdB 2 30 (s.extract f.toNat (f + m).toNat) = true := by unfold rdB; rw [hok, decide_eq_true (by omega)]; rfl
    have e2 : fldB s f m = true := by unfold fldB; rw [h, decide_eq_true (by omega)]; rfl
    rw [e1, e2]
  · have e1 : rdB 2 30 (s.extract f.toNat (f + m).toNat) = false := by unfold rdB; rw [decide_eq_false (by omega)]; rfl
    have e2 : fldB s f m = false := by unfold fldB; rw [decide_eq_false (by omega)]; simp
    rw [e1, e2]

theorem fieldOf (s : ByteArray) (f m : Int) (w : World) (hs : s.size ≤ maxLen) (hf : f ≤ 9223372036854775807) (hm : m ≤ 9223372036854775807) : Calls Try.prog 202 #[.string s, .int .i64 f, .int .i64 m] w
    fun e w' => e = .returned (.tuple #[.int .i64 (fldV s f m), .bool (fldB s f m)]) ∧ w = w' := by
  unfold maxLen at hs
  by_cases h1 : m < 1
  · have d1 : decide (m < 1) = true := decide_eq_true h1
    have HN := Lib.hid (fld_no (s := s) (f := f) (m := m) (by unfold fldB; rw [decide_eq_false (by omega)]; simp))
    clear h1
    go_enter Try.func202, Try.ntmps202
    go_wp2_with fail
    go_ret2
    exact ⟨HN.out, rfl⟩
  · have d1 : decide (m < 1) = false := decide_eq_false h1
    by_cases h2 : f < 0
    · have d2 : decide (f < 0) = true := decide_eq_true h2
      have HN := Lib.hid (fld_no (s := s) (f := f) (m := m) (by unfold fldB; rw [decide_eq_false (by omega)]; simp))
      clear h1 h2
      go_enter Try.func202, Try.ntmps202
      go_wp2_with fail
      go_ret2
      exact ⟨HN.out, rfl⟩
    · have d2 : decide (f < 0) = false := decide_eq_false h2
      have e1 : IntKind.i64.wrap ((s.size : Int) - m) = (s.size : Int) - m := IntWalk.i64_in _ (by omega)
      by_cases h3 : (s.size : Int) - m < f
      · have d3 : decide ((s.size : Int) - m < f) = true := decide_eq_true h3
        have HN := Lib.hid (fld_no (s := s) (f := f) (m := m) (by unfold fldB; rw [decide_eq_false (by omega)]; simp))
        clear h1 h2 h3
        go_enter Try.func202, Try.ntmps202
        go_wp2_with fail
        go_ret2
        exact ⟨HN.out, rfl⟩
      · have d3 : decide ((s.size : Int) - m < f) = false := decide_eq_false h3
        have HI := Lib.hid (fun w => isBits s w)
        cases hb : rdB 2 64 s
        · have HN := Lib.hid (fld_no (s := s) (f := f) (m := m) (by unfold fldB; rw [hb]; rfl))
          rw [hb] at HI
          clear h1 h2 h3 hb
          go_enter Try.func202, Try.ntmps202
          go_wp2_with fail
          refine (HI.out _).mono ?_
          rintro e w' ⟨rfl, rfl⟩
          go_wp2_with fail
          go_ret2
          exact ⟨HN.out, rfl⟩
        · have HY := Lib.hid (fld_num hb (by omega) (by omega) (show f + m ≤ s.size by omega))
          have HC := Lib.hid (fun w => numberOf (s.extract f.toNat (f + m).toNat) w)
          rw [hb] at HI
          have g0 : 0 ≤ f := by omega
          have g1 : f ≤ f + m := by omega
          have g2 : f + m ≤ (s.size : Int) := by omega
          have e2 : IntKind.i64.wrap (f + m) = f + m := IntWalk.i64_in _ (by omega)
          clear h1 h2 h3 hb
          generalize numV (s.extract f.toNat (f + m).toNat) = v at *
          generalize rdB 2 30 (s.extract f.toNat (f + m).toNat) = b at *
          go_enter Try.func202, Try.ntmps202
          go_wp2_with fail
          refine (HI.out _).mono ?_
          rintro e w' ⟨rfl, rfl⟩
          go_wp2_with fail
          refine (HC.out _).mono ?_
          rintro e w' ⟨rfl, rfl⟩
          go_wp2_with fail
          go_ret2
          exact ⟨HY.out, rfl⟩
end Go.Proofs.Ytdjcbfeilkepmaa.bitsi
