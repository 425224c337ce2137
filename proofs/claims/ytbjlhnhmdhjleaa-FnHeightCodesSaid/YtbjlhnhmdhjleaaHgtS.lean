/- spec's height codes: contracts. -/
import Derived.Test.YtbjlhnhmdhjleaaHgt
import Derived.Test.YtbjlhnhmdhjleaaIn
import Derived.Test.YtbjlhnhmdhjleaaHgtJ
import Derived.Test.YtbjlhnhmdhjleaaHgtK
import Derived.Test.YtbjlhnhmdhjleaaHgtC
import Derived.Test.YtbjlhnhmdhjleaaHgtG
namespace Go.Proofs.Ytbjlhnhmdhjleaa.hgts
open Go.RowKit Go.Proofs.Ytbjlhnhmdhjleaa.hgt Go.Proofs.Ytbjlhnhmdhjleaa.bin Go.Proofs.Ytbjlhnhmdhjleaa.in_ Go.Proofs.Ytbjlhnhmdhjleaa.hgti Go.Proofs.Ytbjlhnhmdhjleaa.hgtj Go.Proofs.Ytbjlhnhmdhjleaa.hgtk Go.Proofs.Ytbjlhnhmdhjleaa.hgtc Go.Proofs.Ytbjlhnhmdhjleaa.hgtg

theorem gray (k : Nat) (hk : k < 2048) (w : World) :
    Calls Try.prog 33 #[.int .i64 (k : Int)] w fun e w' => e = .returned (.int .i64 (gray k : Int)) ∧ w = w' := by
  have e1 : bits .xor .i64 (k : Int) ((k : Int) / 2) = (hgt.gray k : Int) := by
    rw [show ((k : Int) / 2) = ((k / 2 : Nat) : Int) by omega]
    exact xor_nat_i k (k / 2) (by omega) (by omega)
  have h1 : (k : Int) ≤ 2047 := by omega
  generalize hgt.gray k = g at *
  clear hk
  go_enter Try.func33, Try.ntmps33
  go_wp2_with fail
  go_ret
  exact ⟨rfl, rfl⟩
theorem grayOf (n : Int) (w : World) :
    Calls Try.prog 21 #[.int .i64 n] w fun e w' => e = .returned (.tuple #[.int .i64 (grV n : Int), .bool (grB n)]) ∧ w = w' := by
  have HI := Lib.hid (fun w => l1In n 0 2047 w)
  have e0 : isIn n 0 2047 = grB n := rfl
  rw [e0] at HI
  by_cases h : 0 ≤ n ∧ n ≤ 2047
  · obtain ⟨k, rfl⟩ := Int.eq_ofNat_of_zero_le h.1
    obtain ⟨e1, e2, _⟩ := gr_yes (k := k) (by omega)
    rw [e1] at HI ⊢
    rw [e2]
    have HG := Lib.hid (fun w => gray k (by omega) w)
    generalize hgt.gray k = g at *
    clear e0 e1 e2 h
    go_enter Try.func21, Try.ntmps21
    go_wp2_with fail
    refine (HI.out _).mono ?_
    rintro e w1 ⟨rfl, rfl⟩
    go_wp2_with fail
    refine (HG.out _).mono ?_
    rintro e w1 ⟨rfl, rfl⟩
    go_wp2_with fail
    go_ret2
    exact ⟨rfl, rfl⟩
  · obtain ⟨e1, e2, _⟩ := gr_no h
    rw [e1] at HI ⊢
    rw [e2]
    clear e0 e1 e2 h
    go_enter Try.func21, Try.ntmps21
    go_wp2_with fail
    refine (HI.out _).mono ?_
    rintro e w1 ⟨rfl, rfl⟩
    go_wp2_with fail
    go_ret2
    exact ⟨rfl, rfl⟩

theorem unGray (k : Nat) (hk : k < 2048) (w : World) :
    Calls Try.prog 40 #[.int .i64 (k : Int)] w fun e w' => e = .returned (.int .i64 (un k : Int)) ∧ w = w' := by
  have h1 : (k : Int) ≤ 2047 := by omega
  have HU := Lib.hid (show unA 11 k 0 = un k from rfl)
  generalize un k = u at *
  go_enter Try.func40, Try.ntmps40
  go_wp2_with fail
  go_loop [0, 3] (fun g n => ∃ f x a : Nat, g = .int .i64 x ∧ n = .int .i64 a ∧ x < 2 ^ f ∧ x < 2048 ∧ a < 2048 ∧ unA f x a = u) (fun g _ => (intOf g).toNat)
  case atStart => exact ⟨11, k, 0, rfl, rfl, hk, hk, by omega, HU.out⟩
  case round =>
    obtain ⟨f, x, a, rfl, rfl, hf, hx, ha, hu⟩ := hrel
    have HF := Lib.hid hf
    have HV := Lib.hid hu
    clear hf hu HU
    by_cases h0 : 0 < x
    · have e1 : bits .xor .i64 (a : Int) (x : Int) = ((a ^^^ x : Nat) : Int) := xor_nat_i a x (by omega) (by omega)
      have hy := Nat.xor_lt_two_pow (n := 11) (show a < 2 ^ 11 from ha) (show x < 2 ^ 11 from hx)
      obtain ⟨f, rfl⟩ : ∃ g, f = g + 1 := ⟨f - 1, by have := HF.out; cases f with | zero => simp at this; omega | succ f => rfl⟩
      have HW := Lib.hid (show unA f (x / 2) (a ^^^ x) = u from HV.out)
      clear HV
      generalize a ^^^ x = y at *
      have e2 : (x : Int) / 2 = ((x / 2 : Nat) : Int) := by omega
      have hz : x / 2 < x := by omega
      have HP := Lib.hid (show x / 2 < 2 ^ f by have := HF.out; rw [Nat.pow_succ] at this; omega)
      have HM := Lib.hid (show (intOf (.int .i64 ((x / 2 : Nat) : Int))).toNat < (intOf (.int .i64 (x : Int))).toNat from hz)
      have hx2 : x / 2 < 2048 := by omega
      have h0' : (0 : Int) < (x : Int) := by omega
      clear hx hz h0
      generalize x / 2 = z at *
      go_wp2_with fail
      go_round
      case rel => exact ⟨f, z, y, rfl, rfl, HP.out, hx2, hy, HW.out⟩
      case measure => exact HM.out
    · obtain rfl : x = 0 := by omega
      obtain rfl : a = u := by rw [← HV.out, unA_zero]
      go_wp2_with fail
      go_ret
      exact ⟨rfl, rfl⟩
theorem fromGray (n : Int) (w : World) :
    Calls Try.prog 26 #[.int .i64 n] w fun e w' => e = .returned (.tuple #[.int .i64 (ugV n : Int), .bool (grB n)]) ∧ w = w' := by
  have HI := Lib.hid (fun w => l1In n 0 2047 w)
  have e0 : isIn n 0 2047 = grB n := rfl
  rw [e0] at HI
  by_cases h : 0 ≤ n ∧ n ≤ 2047
  · obtain ⟨k, rfl⟩ := Int.eq_ofNat_of_zero_le h.1
    obtain ⟨e1, _, e2⟩ := gr_yes (k := k) (by omega)
    rw [e1] at HI ⊢
    rw [e2]
    have HG := Lib.hid (fun w => unGray k (by omega) w)
    generalize un k = g at *
    clear e0 e1 e2 h
    go_enter Try.func26, Try.ntmps26
    go_wp2_with fail
    refine (HI.out _).mono ?_
    rintro e w1 ⟨rfl, rfl⟩
    go_wp2_with fail
    refine (HG.out _).mono ?_
    rintro e w1 ⟨rfl, rfl⟩
    go_wp2_with fail
    go_ret2
    exact ⟨rfl, rfl⟩
  · obtain ⟨e1, _, e2⟩ := gr_no h
    rw [e1] at HI ⊢
    rw [e2]
    clear e0 e1 e2 h
    go_enter Try.func26, Try.ntmps26
    go_wp2_with fail
    refine (HI.out _).mono ?_
    rintro e w1 ⟨rfl, rfl⟩
    go_wp2_with fail
    go_ret2
    exact ⟨rfl, rfl⟩

theorem isHeight (h : Int) (w : World) :
    Calls Try.prog 41 #[.int .i64 h] w fun e w' => e = .returned (.bool (hB h)) ∧ w = w' := by
  have HI := Lib.hid (fun w => l1In h (-2000) 130000 w)
  have e0 : isIn h (-2000) 130000 = hB h := rfl
  rw [e0] at HI
  clear e0
  generalize hB h = b at *
  go_enter Try.func41, Try.ntmps41
  go_wp2_with fail
  refine (HI.out _).mono ?_
  rintro e w1 ⟨rfl, rfl⟩
  go_wp2_with fail
  go_ret
  exact ⟨rfl, rfl⟩

theorem decode (c : Int) (w : World) :
    Calls Try.prog 37 #[.int .i64 c] w fun e w' => e = .returned (.tuple #[.int .i64 (dcH c), .bool (dcF c), .bool (dcB c)]) ∧ w = w' := by
  have HI := Lib.hid (fun w => l1In c 2048 4095 w)
  have HJ := Lib.hid (fun w => l1In c 0 2047 w)
  by_cases h0 : 2048 ≤ c ∧ c ≤ 4095
  · have e1 : isIn c 2048 4095 = true := decide_eq_true h0
    have HE := Lib.hid (dc_fine h0.1 h0.2)
    rw [show 25 * (c - 2048) - 1000 = -1000 + 25 * (c - 2048) by omega] at HE
    rw [e1] at HI
    obtain ⟨a0, a1⟩ := h0
    clear e1 HJ
    go_enter Try.func37, Try.ntmps37
    go_wp2_with fail
    refine (HI.out _).mono ?_
    rintro e w1 ⟨rfl, rfl⟩
    go_wp2_with fail
    go_ret3
    exact ⟨HE.out, rfl⟩
  · have e1 : isIn c 2048 4095 = false := decide_eq_false h0
    rw [e1] at HI
    by_cases h1 : 0 ≤ c ∧ c ≤ 2047
    · have e2 : isIn c 0 2047 = true := decide_eq_true h1
      rw [e2] at HJ
      obtain ⟨k, rfl⟩ := Int.eq_ofNat_of_zero_le h1.1
      have hk : k < 2048 := by omega
      have HU := Lib.hid (fun w => unGray k hk w)
      have hu := un_lt hk
      by_cases h3 : un k ≤ 1279
      · have HE := Lib.hid (dc_coarse hk h3)
        generalize un k = u at *
        have hu2 : (u : Int) ≤ 1279 := by omega
        have hu0 : (0 : Int) ≤ (u : Int) := by omega
        clear h0 h1 hu h3 hk e1 e2
        generalize (k : Int) = n at *
        generalize (u : Int) = v at *
        go_enter Try.func37, Try.ntmps37
        go_wp2_with fail
        refine (HI.out _).mono ?_
        rintro e w1 ⟨rfl, rfl⟩
        go_wp2_with fail
        refine (HJ.out _).mono ?_
        rintro e w1 ⟨rfl, rfl⟩
        go_wp2_with fail
        refine (HU.out _).mono ?_
        rintro e w1 ⟨rfl, rfl⟩
        go_wp2_with fail
        refine (HU.out _).mono ?_
        rintro e w1 ⟨rfl, rfl⟩
        go_wp2_with fail
        go_ret3
        exact ⟨HE.out, rfl⟩
      · have HE := Lib.hid (dc_no (dc_over hk (by omega)))
        generalize un k = u at *
        have hu2 : (1279 : Int) < (u : Int) := by omega
        have hu0 : (0 : Int) ≤ (u : Int) := by omega
        clear h0 h1 hu h3 hk e1 e2
        generalize (k : Int) = n at *
        generalize (u : Int) = v at *
        go_enter Try.func37, Try.ntmps37
        go_wp2_with fail
        refine (HI.out _).mono ?_
        rintro e w1 ⟨rfl, rfl⟩
        go_wp2_with fail
        refine (HJ.out _).mono ?_
        rintro e w1 ⟨rfl, rfl⟩
        go_wp2_with fail
        refine (HU.out _).mono ?_
        rintro e w1 ⟨rfl, rfl⟩
        go_wp2_with fail
        go_ret3
        exact ⟨HE.out, rfl⟩
    · have e2 : isIn c 0 2047 = false := decide_eq_false h1
      rw [e2] at HJ
      have HE := Lib.hid (dc_no (dc_out (c := c) (by omega)))
      clear h0 h1 e1 e2
      go_enter Try.func37, Try.ntmps37
      go_wp2_with fail
      refine (HI.out _).mono ?_
      rintro e w1 ⟨rfl, rfl⟩
      go_wp2_with fail
      refine (HJ.out _).mono ?_
      rintro e w1 ⟨rfl, rfl⟩
      go_wp2_with fail
      go_ret3
      exact ⟨HE.out, rfl⟩
theorem decodeHeight (c : Int) (w : World) :
    Calls Try.prog 18 #[.int .i64 c] w fun e w' => e = .returned (.tuple #[.int .i64 (dcH c), .bool (dcF c), .bool (dcB c)]) ∧ w = w' := by
  have HD := Lib.hid (fun w => decode c w)
  generalize dcH c = x at *
  generalize dcF c = y at *
  generalize dcB c = z at *
  go_enter Try.func18, Try.ntmps18
  go_wp2_with fail
  refine (HD.out _).mono ?_
  rintro e w1 ⟨rfl, rfl⟩
  go_wp2_with fail
  go_ret3
  exact ⟨rfl, rfl⟩
end Go.Proofs.Ytbjlhnhmdhjleaa.hgts
