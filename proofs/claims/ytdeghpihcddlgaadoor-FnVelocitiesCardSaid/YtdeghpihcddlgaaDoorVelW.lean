/- The texts of velocities: plain mathematics; contracts of spec.l8Part, l8Text, VelocityText and impl.valueText, VelocityText. -/
import Derived.Test.YtdeghpihcddlgaaDoorVelS
import Derived.Test.YtdeghpihcddlgaaDoorFmtAll
import Derived.Test.YtdeghpihcddlgaaDoorPosX
import Derived.Deep.RegionHeld3
import Derived.Deep.CutRange
namespace Go.Proofs.YtdeghpihcddlgaaDoor.velw
open Go.RowKit Go.Proofs.YtdeghpihcddlgaaDoor.vel Go.Proofs.YtdeghpihcddlgaaDoor.ats Go.Proofs.YtdeghpihcddlgaaDoor.num

/-- An absolute value with one of two letters, or nothing for 0. -/
def pt (x : Int) (p m : UInt8) : ByteArray := if 0 < x then txt x ++ ⟨#[p]⟩ else if x < 0 then txt (-x) ++ ⟨#[m]⟩ else ⟨#[]⟩
theorem pt_pos {x : Int} (p m : UInt8) (h : 0 < x) : pt x p m = txt x ++ ⟨#[p]⟩ := by unfold pt; rw [if_pos h]
theorem pt_neg {x : Int} (p m : UInt8) (h : x < 0) : pt x p m = txt (-x) ++ ⟨#[m]⟩ := by unfold pt; rw [if_neg (by omega), if_pos h]
theorem pt_zero (p m : UInt8) : pt 0 p m = ⟨#[]⟩ := by unfold pt; rw [if_neg (by omega), if_neg (by omega)]
theorem pt_size {x : Int} (p m : UInt8) (h : -200 ≤ x ∧ x ≤ 200) : (pt x p m).size ≤ 22 := by
  unfold pt
  split
  · rw [ByteArray.size_append]
    have := txt_size x (by omega) (by omega)
    show _ + 1 ≤ _
    omega
  · split
    · rw [ByteArray.size_append]
      have := txt_size (-x) (by omega) (by omega)
      show _ + 1 ≤ _
      omega
    · exact Nat.zero_le _
theorem app_ne (t : ByteArray) (c : UInt8) : (t ++ ⟨#[c]⟩ : ByteArray).toList ≠ [] := by
  intro h
  have h2 : (t ++ ⟨#[c]⟩ : ByteArray).data.toList = [] := by rw [← Lib.toList_data]; exact h
  rw [aid.str_app] at h2
  simp at h2
theorem pt_nil (x : Int) (p m : UInt8) : ((pt x p m).toList == []) = decide (x = 0) := by
  by_cases h : x = 0
  · subst h
    rw [pt_zero, Lib.toList_data]
    rfl
  · rw [decide_eq_false h, beq_eq_false_iff_ne]
    by_cases h1 : 0 < x
    · rw [pt_pos p m h1]; exact app_ne _ _
    · rw [pt_neg p m (by omega)]; exact app_ne _ _
def vt (x y : Int) : ByteArray := if x = 0 ∧ y = 0 then ⟨#[48]⟩ else if x = 0 ∨ y = 0 then pt y 78 83 ++ pt x 69 87 else pt y 78 83 ++ ⟨#[32]⟩ ++ pt x 69 87
def vtT (x y : Int) : ByteArray := if vB x y then vt x y else ⟨#[]⟩
theorem vt_no {x y : Int} (h : vB x y = false) : (Value.tuple #[.string ⟨#[]⟩, .bool false]) = .tuple #[.string (vtT x y), .bool (vB x y)] := by unfold vtT; rw [h]; rfl
theorem vt_yes {x y : Int} {t : ByteArray} (h : vB x y = true) (ht : t = vt x y) : (Value.tuple #[.string t, .bool true]) = .tuple #[.string (vtT x y), .bool (vB x y)] := by unfold vtT; rw [h, if_pos rfl, ht]
theorem vt_rest : vt 0 0 = ⟨#[48]⟩ := rfl
theorem vt_one {x y : Int} (h : ¬ (x = 0 ∧ y = 0)) (h2 : x = 0 ∨ y = 0) : pt y 78 83 ++ pt x 69 87 = vt x y := by unfold vt; rw [if_neg h, if_pos h2]
theorem vt_two {x y : Int} (h : ¬ (x = 0 ∨ y = 0)) : pt y 78 83 ++ ⟨#[32]⟩ ++ pt x 69 87 = vt x y := by unfold vt; rw [if_neg (fun h2 => h (Or.inl h2.1)), if_neg h]

theorem part8 (x : Int) (p m : UInt8) (hx : -200 ≤ x ∧ x ≤ 200) (w : World) :
    Calls Tryd.prog 51 #[.int .i64 x, .string ⟨#[p]⟩, .string ⟨#[m]⟩] w fun e w' => e = .returned (.string (pt x p m)) ∧ ∃ j, w' = w.drewN j := by
  obtain ⟨x0, x1⟩ := hx
  by_cases h1 : 0 < x
  · have HE := Lib.hid (aid.ret_str (pt_pos p m h1).symm)
    have HN := Lib.hid (fun w => num_any x w (by omega) (by omega) (by omega))
    have hz := txt_size x (by omega) (by omega)
    generalize txt x = t at *
    go_enter Tryd.func51, Tryd.ntmps51
    go_wp2_with fail
    refine (HN.out _).mono ?_
    rintro e w1 ⟨rfl, j, rfl⟩
    go_wp2_with fail
    go_ret
    exact ⟨HE.out, j, rfl⟩
  · have g1 : decide (0 < x) = false := decide_eq_false h1
    by_cases h2 : x < 0
    · have HE := Lib.hid (aid.ret_str (pt_neg p m h2).symm)
      have HN := Lib.hid (fun w => num_any (-x) w (by omega) (by omega) (by omega))
      have hz := txt_size (-x) (by omega) (by omega)
      generalize txt (-x) = t at *
      clear h1
      go_enter Tryd.func51, Tryd.ntmps51
      go_wp2_with fail
      refine (HN.out _).mono ?_
      rintro e w1 ⟨rfl, j, rfl⟩
      go_wp2_with fail
      go_ret
      exact ⟨HE.out, j, rfl⟩
    · obtain rfl : x = 0 := by omega
      have HE := Lib.hid (aid.ret_str (pt_zero p m).symm)
      clear g1 h1 h2
      go_enter Tryd.func51, Tryd.ntmps51
      go_wp2_with fail
      go_ret
      exact ⟨HE.out, 0, rfl⟩

theorem valueText (x : Int) (p m : UInt8) (hx : -200 ≤ x ∧ x ≤ 200) (w : World) (ht : fmt.Tab w) :
    Calls Tryd.prog 23 #[.int .i64 x, .string ⟨#[p]⟩, .string ⟨#[m]⟩] w fun e w' => e = .returned (.string (pt x p m)) ∧ Below w.heap.size w w' := by
  have HA := Lib.hid (fun w => veli.absoluteOf x hx w)
  have ha := ab_le hx
  have HN := Lib.hid (fmt.format_yes (ab x) w (by omega) (by omega) ht)
  have hz := txt_size (ab x) (by omega) (by omega)
  obtain ⟨x0, x1⟩ := hx
  clear ht
  by_cases h1 : 0 < x
  · have HE := Lib.hid (aid.ret_str (show txt (ab x) ++ ⟨#[p]⟩ = pt x p m by rw [show ab x = x by unfold ab; rw [if_neg (by omega)]]; exact (pt_pos p m h1).symm))
    generalize txt (ab x) = t at *
    generalize ab x = a at *
    go_enter Tryd.func23, Tryd.ntmps23
    go_wp2_with fail
    refine (HA.out _).mono ?_
    rintro e w1 ⟨rfl, rfl⟩
    go_wp2_with fail
    refine HN.out.mono ?_
    rintro e w1 ⟨rfl, hb⟩
    have HB := Lib.hid hb
    clear hb
    go_wp2_with fail
    go_ret
    exact ⟨HE.out, HB.out⟩
  · have g1 : decide (0 < x) = false := decide_eq_false h1
    by_cases h2 : x < 0
    · have HE := Lib.hid (aid.ret_str (show txt (ab x) ++ ⟨#[m]⟩ = pt x p m by rw [show ab x = -x by unfold ab; rw [if_pos h2]]; exact (pt_neg p m h2).symm))
      generalize txt (ab x) = t at *
      generalize ab x = a at *
      clear h1
      go_enter Tryd.func23, Tryd.ntmps23
      go_wp2_with fail
      refine (HA.out _).mono ?_
      rintro e w1 ⟨rfl, rfl⟩
      go_wp2_with fail
      refine HN.out.mono ?_
      rintro e w1 ⟨rfl, hb⟩
      have HB := Lib.hid hb
      clear hb
      go_wp2_with fail
      go_ret
      exact ⟨HE.out, HB.out⟩
    · obtain rfl : x = 0 := by omega
      have HE := Lib.hid (aid.ret_str (pt_zero p m).symm)
      clear g1 h1 h2
      generalize txt (ab 0) = t at *
      generalize ab 0 = a at *
      go_enter Tryd.func23, Tryd.ntmps23
      go_wp2_with fail
      refine (HA.out _).mono ?_
      rintro e w1 ⟨rfl, rfl⟩
      go_wp2_with fail
      refine HN.out.mono ?_
      rintro e w1 ⟨rfl, hb⟩
      have HB := Lib.hid hb
      clear hb
      go_wp2_with fail
      go_ret
      exact ⟨HE.out, HB.out⟩
end Go.Proofs.YtdeghpihcddlgaaDoor.velw
