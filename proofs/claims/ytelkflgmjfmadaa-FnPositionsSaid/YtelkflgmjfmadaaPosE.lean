/- The laws' helpers on slices of places: eqPlaceS, markPlaceS, heldPlaceS, vPlaces. -/
import Derived.Test.YtelkflgmjfmadaaLst
import Derived.Test.YtelkflgmjfmadaaPosX
namespace Go.Proofs.Ytelkflgmjfmadaa.pose
open Go.RowKit Go.Proofs.Ytelkflgmjfmadaa.ints Go.Proofs.Ytelkflgmjfmadaa.lst

/-- The two cells of element k, in the form of the walk. -/
theorem cells2 {w : World} {B n k : Nat} {A : Option Addr} {zs : List Int} (h : RdZ 2 w B A n zs) (hk : k < n) :
    ∃ b o, A = some ⟨b, o, none⟩ ∧ b < B ∧ w.cell? ⟨b, o + k * 2, none⟩ = some (.int .i64 (fld 2 zs k 0)) ∧ w.cell? ⟨b, o + k * 2 + 1, none⟩ = some (.int .i64 (fld 2 zs k 1)) := by
  obtain ⟨b, o, e, hb, hc⟩ := h.at_ hk
  exact ⟨b, o, e, hb, hc 0 (by omega), hc 1 (by omega)⟩

theorem marks_rd {w : World} {B n c : Nat} {A : Option Addr} {k : Nat} (h : w.ownsRow B 25 2 (.slice A n c) n (cellsI (marksI k (n * 2)))) : RdZ 2 w w.heap.size A n (marksI k (n * 2)) :=
  RdZ.of_own h (marksI_length k (n * 2))

set_option maxRecDepth 100000 in
theorem vPlaces (zs : List Int) (A C : Option Addr) (n c d : Nat) (w : World) (hn : n ≤ 1048577) (h1 : RdZ 2 w w.heap.size A n zs) (h2 : RdZ 2 w w.heap.size C n zs) :
    Calls Try.prog 17 #[.slice A n c, .slice C n d] w fun e w' => e = .returned (.bool true) ∧ ∃ j, w' = w.drewN j := by
  go_enter Try.func17, Try.ntmps17
  go_wp2
  go_loopw [5] (fun i wr => ∃ k j : Nat, k ≤ n ∧ i = .int .i64 k ∧ wr = w.drewN j) (fun i _ => n - (intOf i).toNat)
  case atStart => exact ⟨0, 0, Nat.zero_le _, rfl, rfl⟩
  case round =>
    obtain ⟨k, j, hk, rfl, rfl⟩ := hrel
    by_cases hlt : k < n
    · obtain ⟨b1, o1, rfl, l1, p0, p1⟩ := cells2 h1 hlt
      obtain ⟨b2, o2, rfl, l2, r0, r1⟩ := cells2 h2 hlt
      have hlt2 : (k : Int) < (n : Int) := by omega
      clear h1 h2
      generalize fld 2 zs k 0 = x at *
      generalize fld 2 zs k 1 = y at *
      have hs := int_ne_self x
      have hs2 := int_ne_self y
      have hs3 : (x == x) = true := by simp
      have hs4 : (y == y) = true := by simp
      go_wp2_with fail
      go_quiet (fail)
      go_wp2
      go_roundw
      case rel => exact ⟨k + 1, _, by omega, by go_num, by first | rfl | rw [World.drewN_drewN]⟩
      case measure => simp [intOf]; omega
    · clear h1 h2
      go_wp2
      go_ret
      exact ⟨rfl, j, rfl⟩
end Go.Proofs.Ytelkflgmjfmadaa.pose
