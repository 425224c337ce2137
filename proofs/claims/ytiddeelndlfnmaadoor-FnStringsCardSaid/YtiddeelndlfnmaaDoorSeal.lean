/- A string sealed by its checksum: the contracts of spec.l1Stands, spec.l1Seal, spec.AppendChecksum and impl.AppendChecksum, for every string. -/
import Derived.Test.YtiddeelndlfnmaaDoorSum
import Derived.Test.YtiddeelndlfnmaaDoorStands
import Derived.Test.YtiddeelndlfnmaaDoorNum
import Derived.Test.YtiddeelndlfnmaaDoorFmt
import Derived.Lib.IndexAny
namespace Go.Proofs.YtiddeelndlfnmaaDoor.seal_
open Go.RowKit Go.Proofs.YtiddeelndlfnmaaDoor.num Go.Proofs.YtiddeelndlfnmaaDoor.sum Go.Proofs.YtiddeelndlfnmaaDoor.stands_

theorem has_iff (l : List UInt8) (b : UInt8) : decide (0 ≤ Lib.indexByte l b) = has l b := (Lib.contains_iff_indexByte l b).symm

/-- The sealed text. -/
def sealT (s : ByteArray) : ByteArray := s ++ ⟨#[35]⟩ ++ txt (sumF s.data.toList)

theorem sealT_size (s : ByteArray) : (sealT s).size = s.size + 1 + (txt (sumF s.data.toList)).size := by
  unfold sealT
  rw [ByteArray.size_append, ByteArray.size_append]
  rfl

theorem l1Seal (s : ByteArray) (w : World) (hs : s.size ≤ 1048576) :
    Calls Tryd.prog 34 #[.string s] w fun e w' => e = .returned (.string (sealT s)) ∧ ∃ j, w' = w.drewN j := by
  have hf : Ending.returned (.string (s ++ ⟨#[35]⟩ ++ txt (sumF s.data.toList))) = Ending.returned (.string (sealT s)) := rfl
  have HF := Lib.hid hf
  clear hf
  have hsum := Lib.hid (fun w => l1Sum s w (by unfold maxLen; omega))
  obtain ⟨b0, b1⟩ := sumF_bd s.data.toList
  have hb := txt_size (sumF s.data.toList) (by omega) (by omega)
  generalize sumF s.data.toList = x at *
  have hn := num_any x
  go_enter Tryd.func34, Tryd.ntmps34
  go_wp2_with (first
    | (go_at_call 40; refine (hsum.out _).mono ?_; rintro e w' ⟨rfl, rfl⟩)
    | (go_at_call 25; refine (hn _ (by omega) (by omega) (by omega)).mono ?_; rintro e w' ⟨rfl, j, rfl⟩))
  go_ret
  exact ⟨HF.out, _, rfl⟩

theorem spec_long (s : ByteArray) (w : World) (h : 4000 < (s.size : Int)) :
    Calls Tryd.prog 17 #[.string s] w fun e w' => e = .returned (.tuple #[.string ⟨#[]⟩, .bool false]) ∧ w = w' := by
  go_enter Tryd.func17, Tryd.ntmps17
  go_wp2
  go_ret2
  exact ⟨rfl, rfl⟩

theorem spec_mark (s : ByteArray) (w : World) (h : (s.size : Int) ≤ 4000) (hm : has s.data.toList 35 = true) :
    Calls Tryd.prog 17 #[.string s] w fun e w' => e = .returned (.tuple #[.string ⟨#[]⟩, .bool false]) ∧ w = w' := by
  have hc := fun w => stands s 35 w (by unfold maxLen; omega)
  rw [hm] at hc
  clear hm
  go_enter Tryd.func17, Tryd.ntmps17
  go_wp2_with (go_at_call 33; refine (hc _).mono ?_; rintro e w' ⟨rfl, rfl⟩)
  go_ret2
  exact ⟨rfl, rfl⟩

theorem spec_wide (s : ByteArray) (w : World) (h : (s.size : Int) ≤ 4000) (hm : has s.data.toList 35 = false) (hl : 4000 < ((sealT s).size : Int)) :
    Calls Tryd.prog 17 #[.string s] w fun e w' => e = .returned (.tuple #[.string ⟨#[]⟩, .bool false]) ∧ ∃ j, w' = w.drewN j := by
  have hc := fun w => stands s 35 w (by unfold maxLen; omega)
  rw [hm] at hc
  clear hm
  have hq := fun w => l1Seal s w (by omega)
  generalize sealT s = x at *
  go_enter Tryd.func17, Tryd.ntmps17
  go_wp2_with (first
    | (go_at_call 33; refine (hc _).mono ?_; rintro e w' ⟨rfl, rfl⟩)
    | (go_at_call 34; refine (hq _).mono ?_; rintro e w' ⟨rfl, j, rfl⟩))
  go_ret2
  exact ⟨rfl, _, rfl⟩

theorem spec_yes (s : ByteArray) (w : World) (h : (s.size : Int) ≤ 4000) (hm : has s.data.toList 35 = false) (hl : ((sealT s).size : Int) ≤ 4000) :
    Calls Tryd.prog 17 #[.string s] w fun e w' => e = .returned (.tuple #[.string (sealT s), .bool true]) ∧ ∃ j, w' = w.drewN j := by
  have hc := fun w => stands s 35 w (by unfold maxLen; omega)
  rw [hm] at hc
  clear hm
  have hq := fun w => l1Seal s w (by omega)
  generalize sealT s = x at *
  go_enter Tryd.func17, Tryd.ntmps17
  go_wp2_with (first
    | (go_at_call 33; refine (hc _).mono ?_; rintro e w' ⟨rfl, rfl⟩)
    | (go_at_call 34; refine (hq _).mono ?_; rintro e w' ⟨rfl, j, rfl⟩))
  go_ret2
  exact ⟨rfl, _, rfl⟩

theorem contains (s : ByteArray) (w : World) :
    Calls Tryd.prog 32 #[.string s, .string ⟨#[35]⟩] w fun e w' => e = .returned (.bool (has s.data.toList 35)) ∧ w = w' :=
  (Tryd.strings_Contains_one s 35 w).mono fun e w' ⟨he, hw⟩ => ⟨by rw [he, has_iff], hw.symm⟩

theorem impl_long (s : ByteArray) (w : World) (h : 4000 < (s.size : Int)) :
    Calls Tryd.prog 16 #[.string s] w fun e w' => e = .returned (.tuple #[.string ⟨#[]⟩, .bool false]) ∧ w = w' := by
  have hc := fun w => impl_no s w h
  go_enter Tryd.func16, Tryd.ntmps16
  go_wp2_with (go_at_call 31; refine (hc _).mono ?_; rintro e w' ⟨rfl, rfl⟩)
  go_ret2
  exact ⟨rfl, rfl⟩

theorem impl_mark (s : ByteArray) (w : World) (h : (s.size : Int) ≤ 4000) (hm : has s.data.toList 35 = true) :
    Calls Tryd.prog 16 #[.string s] w fun e w' => e = .returned (.tuple #[.string ⟨#[]⟩, .bool false]) ∧ w = w' := by
  have hc := fun w => impl_yes s w h
  have hk := fun w => contains s w
  rw [hm] at hk
  clear hm
  go_enter Tryd.func16, Tryd.ntmps16
  go_wp2_with (first
    | (go_at_call 31; refine (hc _).mono ?_; rintro e w' ⟨rfl, rfl⟩)
    | (go_at_call 32; refine (hk _).mono ?_; rintro e w' ⟨rfl, rfl⟩))
  go_ret2
  exact ⟨rfl, rfl⟩

theorem impl_wide (s : ByteArray) (w : World) (h : (s.size : Int) ≤ 4000) (hm : has s.data.toList 35 = false) (hl : 4000 < ((sealT s).size : Int)) (ht : fmt.Tab w) :
    Calls Tryd.prog 16 #[.string s] w fun e w' => e = .returned (.tuple #[.string ⟨#[]⟩, .bool false]) ∧ Below w.heap.size w w' := by
  have hc := fun w => impl_yes s w h
  have hk := fun w => contains s w
  rw [hm] at hk
  clear hm
  obtain ⟨b0, b1⟩ := sumF_bd s.data.toList
  rw [sealT_size] at hl
  have hb := txt_size (sumF s.data.toList) (by omega) (by omega)
  have hf := Lib.hid (fmt.format_yes (sumF s.data.toList) w (by omega) (by omega) ht)
  clear ht
  generalize sumF s.data.toList = x at *
  have hl' : 4000 < (s.size : Int) + 1 + ((txt x).size : Int) := by omega
  clear hl
  go_enter Tryd.func16, Tryd.ntmps16
  go_wp2_with (first
    | (go_at_call 31; refine (hc _).mono ?_; rintro e w' ⟨rfl, rfl⟩)
    | (go_at_call 32; refine (hk _).mono ?_; rintro e w' ⟨rfl, rfl⟩)
    | (go_at_call 10; refine hf.out.mono ?_; rintro e w' ⟨rfl, hb2⟩))
  go_ret2
  exact ⟨rfl, hb2⟩

theorem impl_ok (s : ByteArray) (w : World) (h : (s.size : Int) ≤ 4000) (hm : has s.data.toList 35 = false) (hl : ((sealT s).size : Int) ≤ 4000) (ht : fmt.Tab w) :
    Calls Tryd.prog 16 #[.string s] w fun e w' => e = .returned (.tuple #[.string (sealT s), .bool true]) ∧ Below w.heap.size w w' := by
  have HF := Lib.hid (aid.ret_str_ok (c := true) (show s ++ ⟨#[35]⟩ ++ txt (sumF s.data.toList) = sealT s from rfl))
  have hc := fun w => impl_yes s w h
  have hk := fun w => contains s w
  rw [hm] at hk
  clear hm
  obtain ⟨b0, b1⟩ := sumF_bd s.data.toList
  rw [sealT_size] at hl
  have hb := txt_size (sumF s.data.toList) (by omega) (by omega)
  have hf := Lib.hid (fmt.format_yes (sumF s.data.toList) w (by omega) (by omega) ht)
  clear ht
  generalize sumF s.data.toList = x at *
  have hl' : (s.size : Int) + 1 + ((txt x).size : Int) ≤ 4000 := by omega
  clear hl
  go_enter Tryd.func16, Tryd.ntmps16
  go_wp2_with (first
    | (go_at_call 31; refine (hc _).mono ?_; rintro e w' ⟨rfl, rfl⟩)
    | (go_at_call 32; refine (hk _).mono ?_; rintro e w' ⟨rfl, rfl⟩)
    | (go_at_call 10; refine hf.out.mono ?_; rintro e w' ⟨rfl, hb2⟩))
  go_ret2
  exact ⟨HF.out, hb2⟩

/-- Can the string be sealed? And its sealed text, or the empty string. -/
def apB (s : ByteArray) : Bool := decide ((s.size : Int) ≤ 4000) && !has s.data.toList 35 && decide (((sealT s).size : Int) ≤ 4000)
def apT (s : ByteArray) : ByteArray := if apB s then sealT s else ⟨#[]⟩

theorem ap_long {s : ByteArray} (h : 4000 < (s.size : Int)) : apB s = false := by
  unfold apB; rw [decide_eq_false (by omega)]; rfl
theorem ap_mark {s : ByteArray} (h : has s.data.toList 35 = true) : apB s = false := by
  unfold apB; rw [h]; simp
theorem ap_wide {s : ByteArray} (h : 4000 < ((sealT s).size : Int)) : apB s = false := by
  unfold apB; rw [decide_eq_false (p := ((sealT s).size : Int) ≤ 4000) (by omega)]; simp
theorem ap_yes {s : ByteArray} (h : (s.size : Int) ≤ 4000) (hm : has s.data.toList 35 = false) (hl : ((sealT s).size : Int) ≤ 4000) : apB s = true := by
  unfold apB; rw [decide_eq_true h, hm, decide_eq_true hl]; rfl
theorem end_no {s : ByteArray} (h : apB s = false) : Ending.returned (.tuple #[.string ⟨#[]⟩, .bool false]) = .returned (.tuple #[.string (apT s), .bool (apB s)]) := by
  unfold apT; rw [h]; rfl
theorem end_yes {s : ByteArray} (h : apB s = true) : Ending.returned (.tuple #[.string (sealT s), .bool true]) = .returned (.tuple #[.string (apT s), .bool (apB s)]) := by
  unfold apT; rw [h]; rfl

theorem spec_any (s : ByteArray) (w : World) :
    Calls Tryd.prog 17 #[.string s] w fun e w' => e = .returned (.tuple #[.string (apT s), .bool (apB s)]) ∧ ∃ j, w' = w.drewN j := by
  by_cases h : (s.size : Int) ≤ 4000
  · cases hm : has s.data.toList 35
    · by_cases hl : ((sealT s).size : Int) ≤ 4000
      · exact (spec_yes s w h hm hl).mono fun e w' ⟨he, hw⟩ => ⟨he.trans (end_yes (ap_yes h hm hl)), hw⟩
      · exact (spec_wide s w h hm (by omega)).mono fun e w' ⟨he, hw⟩ => ⟨he.trans (end_no (ap_wide (by omega))), hw⟩
    · exact (spec_mark s w h hm).mono fun e w' ⟨he, hw⟩ => ⟨he.trans (end_no (ap_mark hm)), 0, hw.symm⟩
  · exact (spec_long s w (by omega)).mono fun e w' ⟨he, hw⟩ => ⟨he.trans (end_no (ap_long (by omega))), 0, hw.symm⟩

theorem impl_any (s : ByteArray) (w : World) (ht : fmt.Tab w) :
    Calls Tryd.prog 16 #[.string s] w fun e w' => e = .returned (.tuple #[.string (apT s), .bool (apB s)]) ∧ Below w.heap.size w w' := by
  by_cases h : (s.size : Int) ≤ 4000
  · cases hm : has s.data.toList 35
    · by_cases hl : ((sealT s).size : Int) ≤ 4000
      · exact (impl_ok s w h hm hl ht).mono fun e w' ⟨he, hw⟩ => ⟨he.trans (end_yes (ap_yes h hm hl)), hw⟩
      · exact (impl_wide s w h hm (by omega) ht).mono fun e w' ⟨he, hw⟩ => ⟨he.trans (end_no (ap_wide (by omega))), hw⟩
    · exact (impl_mark s w h hm).mono fun e w' ⟨he, hw⟩ => ⟨he.trans (end_no (ap_mark hm)), hw ▸ Below.refl _ _⟩
  · exact (impl_long s w (by omega)).mono fun e w' ⟨he, hw⟩ => ⟨he.trans (end_no (ap_long (by omega))), hw ▸ Below.refl _ _⟩
end Go.Proofs.YtiddeelndlfnmaaDoor.seal_
