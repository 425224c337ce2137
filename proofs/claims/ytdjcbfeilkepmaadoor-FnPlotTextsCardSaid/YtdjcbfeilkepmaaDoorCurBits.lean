/- The reader of choices, on: bit strings (bits), spoilt strings (spoilt), and texts that are mostly bit strings (anyBits). -/
import Derived.Test.YtdjcbfeilkepmaaDoorCurInt
import Derived.Test.YtdjcbfeilkepmaaDoorBin
import Derived.BigQuiet
import Derived.Deep.QuietTactic
namespace Go.Proofs.YtdjcbfeilkepmaaDoor.cur
open Go.RowKit Go.Proofs.YtdjcbfeilkepmaaDoor.bin

theorem grown_drewN {w w' : World} {r : Option Nat} (h : w.grownBy w' r) (k : Nat) : w.grownBy (w'.drewN k) r := ⟨h.os, h.tape, h.output, h.size, h.block⟩
theorem cur_drewN {w : World} {p m : Nat} (h : Cur w p m) (k : Nat) : Cur (w.drewN k) p m := h.keep (aid.below_drewN (Below.refl _ _) k)
def szOf : Value → Nat
  | .string x => x.size
  | _ => 0

/-- One digit 0 or 1. -/
def Bit (x : ByteArray) : Prop := x.size = 1 ∧ ok 2 x.data.toList = true
theorem bit_list : ∀ x ∈ ([⟨#[48]⟩, ⟨#[49]⟩] : List ByteArray), Bit x := by
  intro x hx
  simp at hx
  rcases hx with rfl | rfl
  · exact ⟨rfl, by decide⟩
  · exact ⟨rfl, by decide⟩
def Bits (n : Nat) (x : ByteArray) : Prop := x.size ≤ n ∧ ok 2 x.data.toList = true
theorem bit_add {x y : ByteArray} (hx : ok 2 x.data.toList = true) (hy : Bit y) : ok 2 (x ++ y).data.toList = true ∧ (x ++ y).size = x.size + 1 := by
  refine ⟨?_, ?_⟩
  · rw [aid.str_app, ok_app, hx, hy.2]; rfl
  · rw [ByteArray.size_append, hy.1]

theorem cut_size (t : ByteArray) (i : Nat) (hi : i < t.size) (x : ByteArray) (hx : x.size = 1) :
    (t.extract 0 i ++ x ++ t.extract i t.size).size ≤ t.size + 1 ∧ (t.extract 0 i ++ x ++ t.extract (i + 1) t.size).size ≤ t.size + 1 ∧ (t.extract 0 i ++ t.extract (i + 1) t.size).size ≤ t.size + 1 := by
  simp only [ByteArray.size_append, ByteArray.size_extract, hx]
  omega

theorem empty_iff (t : ByteArray) : t.toList.isEmpty = decide (t.size = 0) := by
  rw [ByteArray.toList_eq]
  obtain ⟨⟨l⟩⟩ := t
  cases l <;> simp [← ByteArray.size_data]

set_option maxHeartbeats 1000000 in
theorem spoilt (p m : Nat) (t u : ByteArray) (w : World) (h : Cur w p m) (hm : m ≤ 800000) (ht : (t.size : Int) ≤ 1000) (hu : (u.size : Int) ≤ 100) (hu0 : (1 : Int) ≤ (u.size : Int)) :
    Calls Tryd.prog 42 #[.pointer (some ⟨p, 0, none⟩), .string t, .string u] w (StrQ (fun x => x.size ≤ t.size + 1) p (m + 6) w) := by
  have HC := Lib.hid h
  clear h
  by_cases h0 : t.size = 0
  · have he : t.toList.isEmpty = true := by rw [empty_iff]; exact decide_eq_true h0
    have HS := Lib.hid (show (u.extract 0 1).size ≤ t.size + 1 by rw [ByteArray.size_extract]; omega)
    clear h0
    go_enter Tryd.func42, Tryd.ntmps42
    go_wp2_with fail
    go_ret
    exact ⟨_, rfl, HS.out, HC.out.more (by omega), World.grownBy.refl w _⟩
  · have he : t.toList.isEmpty = false := by rw [empty_iff]; exact decide_eq_false h0
    have ht0 : (1 : Int) ≤ (t.size : Int) := by omega
    clear h0
    go_enter Tryd.func42, Tryd.ntmps42
    go_wp2_with fail
    refine (pick p m (t.size : Int) w HC.out (by omega) (by omega) (by omega)).mono ?_
    rintro e w1 ⟨r, rfl, r0, r1, hc1, hg1⟩
    obtain ⟨i, rfl⟩ := Int.eq_ofNat_of_zero_le r0
    have HC1 := Lib.hid hc1
    have HG1 := Lib.hid hg1
    clear hc1 hg1 HC r0
    go_wp2_with fail
    refine (pick p (m + 2) (u.size : Int) w1 HC1.out (by omega) (by omega) (by omega)).mono ?_
    rintro e w2 ⟨q, rfl, q0, q1, hc2, hg2⟩
    obtain ⟨j, rfl⟩ := Int.eq_ofNat_of_zero_le q0
    have HC2 := Lib.hid hc2
    have HG2 := Lib.hid (grown_trans HG1.out hg2)
    clear hc2 hg2 HC1 HG1 q0
    have e1 : (j : Int) ≤ (u.size : Int) := by omega
    have e2 : (1 : Int) ≤ ((u.extract j u.size).size : Int) := by rw [ByteArray.size_extract]; omega
    have HX := Lib.hid (show ((u.extract j u.size).extract 0 1).size = 1 by rw [ByteArray.size_extract, ByteArray.size_extract]; omega)
    go_wp2_with fail
    generalize (u.extract j u.size).extract 0 1 = y at *
    refine (pick p (m + 4) 3 w2 HC2.out (by omega) (by omega) (by omega)).mono ?_
    rintro e w3 ⟨v, rfl, v0, v1, hc3, hg3⟩
    have HC3 := Lib.hid hc3
    have HG3 := Lib.hid (grown_trans HG2.out hg3)
    clear hc3 hg3 HC2 HG2 e1 e2
    have hi : (i : Int) ≤ (t.size : Int) := by omega
    have hi1 : (i : Int) + 1 ≤ (t.size : Int) := by omega
    have hi2 : IntKind.i64.wrap ((i : Int) + 1) = (i : Int) + 1 := IntWalk.i64_in _ (by omega)
    obtain ⟨s1, s2, s3⟩ := cut_size t i (by omega) y HX.out
    have S1 := Lib.hid s1
    have S2 := Lib.hid s2
    have S3 := Lib.hid s3
    clear s1 s2 s3
    have hys : y.size = 1 := HX.out
    obtain rfl | rfl | rfl : v = 0 ∨ v = 1 ∨ v = 2 := by omega
    · clear v0 v1
      go_wp2_with fail
      go_quiet (fail)
      go_wp2_with fail
      go_ret
      exact ⟨_, rfl, S1.out, cur_drewN HC3.out _, grown_drewN HG3.out _⟩
    · clear v0 v1
      go_wp2_with fail
      go_quiet (fail)
      go_wp2_with fail
      go_ret
      exact ⟨_, rfl, S2.out, cur_drewN HC3.out _, grown_drewN HG3.out _⟩
    · clear v0 v1
      go_wp2_with fail
      go_quiet (fail)
      go_wp2_with fail
      go_ret
      exact ⟨_, rfl, S3.out, cur_drewN HC3.out _, grown_drewN HG3.out _⟩

end Go.Proofs.YtdjcbfeilkepmaaDoor.cur
