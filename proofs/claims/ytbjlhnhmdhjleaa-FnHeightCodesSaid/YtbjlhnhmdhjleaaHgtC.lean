/- impl's heights, on: ChangedBits, ClimbRate. -/
import Derived.Test.YtbjlhnhmdhjleaaHgtK
import Derived.RegionTactic
import Derived.BigRegion
import Derived.BigQuiet
import Derived.Deep.QuietTactic
import Derived.Outline
namespace Go.Proofs.Ytbjlhnhmdhjleaa.hgtc
open Go.RowKit Go.Proofs.Ytbjlhnhmdhjleaa.hgt Go.Proofs.Ytbjlhnhmdhjleaa.bin Go.Proofs.Ytbjlhnhmdhjleaa.hgti

theorem onesCount (x : Nat) (w : World) (hx : x < 4096) :
    Calls Try.prog 39 #[.int .u64 (x : Int)] w fun e w' => e = .returned (.int .i64 (pc 12 x : Int)) ∧ w = w' := by
  have hc := Lib.hid (pop_.popcount x w (by omega))
  rw [show pc 64 x = pc 12 x from pc_small 52 12 x hx] at hc
  generalize pc 12 x = p at *
  go_enter Try.func39, Try.ntmps39
  go_wp2_with fail
  refine hc.out.mono ?_
  rintro e w' ⟨rfl, rfl⟩
  go_wp2_with fail
  go_ret
  exact ⟨rfl, rfl⟩

theorem cb_no {a b : Int} (e : cbB a b = false) : Ending.returned (.tuple #[.int .i64 0, .bool false]) = .returned (.tuple #[.int .i64 (cbV a b : Int), .bool (cbB a b)]) := by unfold cbV; rw [e]; rfl
theorem cb_yes {a b : Int} (e : cbB a b = true) : Ending.returned (.tuple #[.int .i64 (pc 12 (a.toNat ^^^ b.toNat) : Int), .bool true]) = .returned (.tuple #[.int .i64 (cbV a b : Int), .bool (cbB a b)]) := by unfold cbV; rw [e]; rfl
theorem changed (a b : Int) (w : World) :
    Calls Try.prog 23 #[.int .i64 a, .int .i64 b] w fun e w' => e = .returned (.tuple #[.int .i64 (cbV a b : Int), .bool (cbB a b)]) ∧ Below w.heap.size w w' := by
  have HA := Lib.hid (fun w => hgtk.decode a w)
  have HB := Lib.hid (fun w => hgtk.decode b w)
  cases ha : dcB a
  · have HE := Lib.hid (cb_no (a := a) (b := b) (by unfold cbB; rw [ha]; rfl))
    rw [ha] at HA
    clear ha
    generalize dcH a = x1 at *
    generalize dcF a = x2 at *
    generalize dcH b = x3 at *
    generalize dcF b = x4 at *
    generalize dcB b = x5 at *
    go_enter Try.func23, Try.ntmps23
    go_wp2_with fail
    refine (HA.out _).mono ?_
    rintro e w1 ⟨rfl, h1⟩
    go_wp2_with fail
    refine (HB.out _).mono ?_
    rintro e w2 ⟨rfl, h2⟩
    go_wp2_with fail
    go_ret2
    exact ⟨HE.out, h1.trans (h2.mono h1.size)⟩
  · cases hb : dcB b
    · have HE := Lib.hid (cb_no (a := a) (b := b) (by unfold cbB; rw [ha, hb]; rfl))
      rw [ha] at HA
      rw [hb] at HB
      clear ha hb
      generalize dcH a = x1 at *
      generalize dcF a = x2 at *
      generalize dcH b = x3 at *
      generalize dcF b = x4 at *
      go_enter Try.func23, Try.ntmps23
      go_wp2_with fail
      refine (HA.out _).mono ?_
      rintro e w1 ⟨rfl, h1⟩
      go_wp2_with fail
      refine (HB.out _).mono ?_
      rintro e w2 ⟨rfl, h2⟩
      go_wp2_with fail
      go_ret2
      exact ⟨HE.out, h1.trans (h2.mono h1.size)⟩
    · have HE := Lib.hid (cb_yes (a := a) (b := b) (by unfold cbB; rw [ha, hb]; rfl))
      have ra := dc_range ha
      have rb := dc_range hb
      rw [ha] at HA
      rw [hb] at HB
      clear ha hb
      generalize dcH a = x1 at *
      generalize dcF a = x2 at *
      generalize dcH b = x3 at *
      generalize dcF b = x4 at *
      obtain ⟨j, rfl⟩ := Int.eq_ofNat_of_zero_le ra.1
      obtain ⟨k, rfl⟩ := Int.eq_ofNat_of_zero_le rb.1
      have e1 : bits .xor .i64 (j : Int) (k : Int) = ((j ^^^ k : Nat) : Int) := xor_nat_i j k (by omega) (by omega)
      have hx := Nat.xor_lt_two_pow (n := 12) (show j < 2 ^ 12 by omega) (show k < 2 ^ 12 by omega)
      simp only [Int.toNat_natCast] at HE
      generalize j ^^^ k = x at *
      have HO := Lib.hid (fun w => onesCount x w hx)
      have hx2 : (x : Int) < 4096 := by omega
      clear ra rb hx
      generalize pc 12 x = p at *
      go_enter Try.func23, Try.ntmps23
      go_wp2_with fail
      refine (HA.out _).mono ?_
      rintro e w1 ⟨rfl, h1⟩
      go_wp2_with fail
      refine (HB.out _).mono ?_
      rintro e w2 ⟨rfl, h2⟩
      go_wp2_with fail
      refine (HO.out _).mono ?_
      rintro e w3 ⟨rfl, rfl⟩
      go_wp2_with fail
      go_ret2
      exact ⟨HE.out, h1.trans (h2.mono h1.size)⟩
end Go.Proofs.Ytbjlhnhmdhjleaa.hgtc
