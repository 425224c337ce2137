/- impl's heights: EncodeHeight, DecodeHeight, NearestHeight, ChangedBits. -/
import Derived.Test.YtbjlhnhmdhjleaaDoorHgtI
namespace Go.Proofs.YtbjlhnhmdhjleaaDoor.hgtj
open Go.RowKit Go.Proofs.YtbjlhnhmdhjleaaDoor.hgt Go.Proofs.YtbjlhnhmdhjleaaDoor.bin Go.Proofs.YtbjlhnhmdhjleaaDoor.hgtm Go.Proofs.YtbjlhnhmdhjleaaDoor.hgti

theorem en_no {h : Int} {f : Bool} (e : enB h f = false) : Ending.returned (.tuple #[.int .i64 0, .bool false]) = .returned (.tuple #[.int .i64 (enV h f : Int), .bool (enB h f)]) := by unfold enV; rw [e]; rfl
theorem en_yes {h : Int} {f : Bool} {c : Int} (e : enB h f = true) (hc : c = (enV h f : Int)) : Ending.returned (.tuple #[.int .i64 c, .bool true]) = .returned (.tuple #[.int .i64 (enV h f : Int), .bool (enB h f)]) := by rw [e, hc]
theorem or_fine (k : Nat) (hk : k < 2048) : bits .or .i64 2048 (k : Int) = 2048 + (k : Int) := by
  have h := Nat.two_pow_add_eq_or_of_lt (i := 11) hk 1
  rw [show (2048 : Int) = ((2048 : Nat) : Int) from rfl, or_nat_i 2048 k (by omega) (by omega)]
  have e : (2048 : Nat) ||| k = 2048 + k := h.symm
  rw [e]
  omega
theorem en_fine {h : Int} (h0 : ¬ h < -1000) (h1 : ¬ 50175 < h) (h2 : (h + 1000) % 25 = 0) : enB h true = true ∧ bits .or .i64 2048 ((h + 1000) / 25) = (enV h true : Int) := by
  have hb : enB h true = true := decide_eq_true ⟨by simp [lo]; omega, by simp [hi]; omega, by simp [lo, st]; omega⟩
  refine ⟨hb, ?_⟩
  obtain ⟨k, hk⟩ : ∃ k : Nat, (h + 1000) / 25 = (k : Int) := ⟨((h + 1000) / 25).toNat, by omega⟩
  unfold enV
  rw [hb, hk, or_fine k (by omega)]
  simp
theorem en_coarse {h : Int} (h0 : ¬ h < -1200) (h1 : ¬ 126700 < h) (h2 : (h + 1200) % 100 = 0) : enB h false = true ∧ grB ((h + 1200) / 100) = true ∧ (grV ((h + 1200) / 100) : Int) = (enV h false : Int) := by
  have hb : enB h false = true := decide_eq_true ⟨by simp [lo]; omega, by simp [hi]; omega, by simp [lo, st]; omega⟩
  obtain ⟨k, hk⟩ : ∃ k : Nat, (h + 1200) / 100 = (k : Int) := ⟨((h + 1200) / 100).toNat, by omega⟩
  obtain ⟨e1, e2, _⟩ := gr_yes (k := k) (by omega)
  refine ⟨hb, by rw [hk]; exact e1, ?_⟩
  unfold enV
  rw [hb, hk, e2]
  simp

theorem encode_fine (h : Int) (w : World) :
    Calls Tryd.prog 16 #[.int .i64 h, .bool true] w fun e w' => e = .returned (.tuple #[.int .i64 (enV h true : Int), .bool (enB h true)]) ∧ Below w.heap.size w w' := by
  have HS := Lib.hid (scaleOf true w)
  by_cases h0 : h < -1000
  · have HE := Lib.hid (en_no (h := h) (f := true) (decide_eq_false (by simp [lo]; omega)))
    go_enter Tryd.func16, Tryd.ntmps16
    go_wp2_with fail
    refine HS.out.mono ?_
    rintro e w1 ⟨rfl, hb⟩
    unfold scale lo hi st
    go_wp2_with fail
    go_ret2
    exact ⟨HE.out, hb.alloc hb.size _⟩
  · by_cases h1 : 50175 < h
    · have HE := Lib.hid (en_no (h := h) (f := true) (decide_eq_false (by simp [hi]; omega)))
      go_enter Tryd.func16, Tryd.ntmps16
      go_wp2_with fail
      refine HS.out.mono ?_
      rintro e w1 ⟨rfl, hb⟩
      unfold scale lo hi st
      go_wp2_with fail
      go_ret2
      exact ⟨HE.out, hb.alloc hb.size _⟩
    · by_cases h2 : (h + 1000) % 25 = 0
      · have d : ((h + 1000) % 25 != 0) = false := by simp; omega
        obtain ⟨b1, b2⟩ := en_fine h0 h1 h2
        have HE := Lib.hid (en_yes b1 b2)
        clear b1 b2 h2
        go_enter Tryd.func16, Tryd.ntmps16
        go_wp2_with fail
        refine HS.out.mono ?_
        rintro e w1 ⟨rfl, hb⟩
        unfold scale lo hi st
        go_wp2_with fail
        go_ret2
        exact ⟨HE.out, hb.alloc hb.size _⟩
      · have d : ((h + 1000) % 25 != 0) = true := by simp; omega
        have HE := Lib.hid (en_no (h := h) (f := true) (decide_eq_false (by simp [lo, st]; omega)))
        clear h2
        go_enter Tryd.func16, Tryd.ntmps16
        go_wp2_with fail
        refine HS.out.mono ?_
        rintro e w1 ⟨rfl, hb⟩
        unfold scale lo hi st
        go_wp2_with fail
        go_ret2
        exact ⟨HE.out, hb.alloc hb.size _⟩
theorem encode_coarse (h : Int) (w : World) :
    Calls Tryd.prog 16 #[.int .i64 h, .bool false] w fun e w' => e = .returned (.tuple #[.int .i64 (enV h false : Int), .bool (enB h false)]) ∧ Below w.heap.size w w' := by
  have HS := Lib.hid (scaleOf false w)
  by_cases h0 : h < -1200
  · have HE := Lib.hid (en_no (h := h) (f := false) (decide_eq_false (by simp [lo]; omega)))
    go_enter Tryd.func16, Tryd.ntmps16
    go_wp2_with fail
    refine HS.out.mono ?_
    rintro e w1 ⟨rfl, hb⟩
    unfold scale lo hi st
    go_wp2_with fail
    go_ret2
    exact ⟨HE.out, hb.alloc hb.size _⟩
  · by_cases h1 : 126700 < h
    · have HE := Lib.hid (en_no (h := h) (f := false) (decide_eq_false (by simp [hi]; omega)))
      go_enter Tryd.func16, Tryd.ntmps16
      go_wp2_with fail
      refine HS.out.mono ?_
      rintro e w1 ⟨rfl, hb⟩
      unfold scale lo hi st
      go_wp2_with fail
      go_ret2
      exact ⟨HE.out, hb.alloc hb.size _⟩
    · by_cases h2 : (h + 1200) % 100 = 0
      · have d : ((h + 1200) % 100 != 0) = false := by simp; omega
        obtain ⟨b1, b2, b3⟩ := en_coarse h0 h1 h2
        have HE := Lib.hid (en_yes b1 b3)
        have HG := Lib.hid (fun w => grayOf ((h + 1200) / 100) w)
        rw [b2] at HG
        generalize (grV ((h + 1200) / 100) : Int) = c at *
        clear b1 b2 b3 h2
        go_enter Tryd.func16, Tryd.ntmps16
        go_wp2_with fail
        refine HS.out.mono ?_
        rintro e w1 ⟨rfl, hb⟩
        unfold scale lo hi st
        go_wp2_with fail
        refine (HG.out _).mono ?_
        rintro e w2 ⟨rfl, rfl⟩
        go_wp2_with fail
        go_ret2
        exact ⟨HE.out, hb.alloc hb.size _⟩
      · have d : ((h + 1200) % 100 != 0) = true := by simp; omega
        have HE := Lib.hid (en_no (h := h) (f := false) (decide_eq_false (by simp [lo, st]; omega)))
        clear h2
        go_enter Tryd.func16, Tryd.ntmps16
        go_wp2_with fail
        refine HS.out.mono ?_
        rintro e w1 ⟨rfl, hb⟩
        unfold scale lo hi st
        go_wp2_with fail
        go_ret2
        exact ⟨HE.out, hb.alloc hb.size _⟩
theorem encode (h : Int) (f : Bool) (w : World) :
    Calls Tryd.prog 16 #[.int .i64 h, .bool f] w fun e w' => e = .returned (.tuple #[.int .i64 (enV h f : Int), .bool (enB h f)]) ∧ Below w.heap.size w w' := by
  cases f
  · exact encode_coarse h w
  · exact encode_fine h w
end Go.Proofs.YtbjlhnhmdhjleaaDoor.hgtj
