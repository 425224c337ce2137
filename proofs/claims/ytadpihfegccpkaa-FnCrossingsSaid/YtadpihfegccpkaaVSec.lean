/- The laws' vPlaces and vSector: two lists of places, two sectors that read alike. -/
import Derived.Test.YtadpihfegccpkaaPlcE
import Derived.BigQuiet
import Derived.WalkKit
namespace Go.Proofs.Ytadpihfegccpkaa.vsec
open Go.RowKit Go.Proofs.Ytadpihfegccpkaa.ats Go.Proofs.Ytadpihfegccpkaa.ints Go.Proofs.Ytadpihfegccpkaa.lst Go.Proofs.Ytadpihfegccpkaa.plce

theorem int_ne_self (x : Int) : (x != x) = false := by simp
set_option maxHeartbeats 1000000 in
theorem vPlaces (zs : List Int) (A C : Option Addr) (n c d : Nat) (w : World) (hn : n ≤ 1048577) (h1 : RdZ 2 w w.heap.size A n zs) (h2 : RdZ 2 w w.heap.size C n zs) :
    Calls Try.prog 71 #[.slice A n c, .slice C n d] w fun e w' => e = .returned (.bool true) ∧ ∃ j, w' = w.drewN j := by
  have hnn := int_ne_self (n : Int)
  go_enter Try.func71, Try.ntmps71
  go_wp2
  go_loopw [5] (fun i wr => ∃ k j : Nat, k ≤ n ∧ i = .int .i64 k ∧ wr = w.drewN j) (fun i _ => n - (intOf i).toNat)
  case atStart => exact ⟨0, 0, Nat.zero_le _, rfl, rfl⟩
  case round =>
    obtain ⟨k, j, hk, rfl, rfl⟩ := hrel
    by_cases hlt : k < n
    · obtain ⟨b1, o1, rfl, l1, p0, p1⟩ := cellsE h1 hlt
      obtain ⟨b2, o2, rfl, l2, r0, r1⟩ := cellsE h2 hlt
      have hlt2 : (k : Int) < (n : Int) := by omega
      clear h1 h2
      generalize fld 2 zs k 0 = x0 at *
      have hs0 := int_ne_self x0
      have ht0 : (x0 == x0) = true := by simp
      generalize fld 2 zs k 1 = x1 at *
      have hs1 := int_ne_self x1
      have ht1 : (x1 == x1) = true := by simp
      go_wp2_with fail
      go_quiet (fail)
      go_wp2
      go_roundw
      case rel => exact ⟨k + 1, _, by omega, by go_num, by first | rfl | rw [World.drewN_drewN]⟩
      case measure => simp [intOf]; omega
    · clear h1 h2
      go_wp2
      go_ret
      exact ⟨rfl, j, rfl⟩
set_option maxHeartbeats 1000000 in
theorem vSector (d : Int) (zs : List Int) (A C : Option Addr) (n c q : Nat) (w : World) (hn : n ≤ 1048577) (h1 : RdZ 2 w w.heap.size A n zs) (h2 : RdZ 2 w w.heap.size C n zs) :
    Calls Try.prog 26 #[.agg #[.int .i64 d, .slice A n c], .agg #[.int .i64 d, .slice C n q]] w fun e w' => e = .returned (.bool true) ∧ Below w.heap.size w w' := by
  have n0 : (d == d) = true := by simp
  have X2 := Lib.hid (fun (W : World) (hb : Below w.heap.size w W) => vPlaces zs A C n c q W hn (h1.next hb) (h2.next hb))
  have B0 := Lib.hid ((newS 26 #[.int .i64 d, .slice A n c] w).alloc (.cells #[.int .i64 d, .slice C n q] 26))
  clear h1 h2
  go_enter Try.func26, Try.ntmps26
  go_wp2_with fail
  refine (X2.out _ B0.out.1).mono ?_
  rintro e V3 ⟨rfl, j, rfl⟩
  have HB := Lib.hid (aid.below_drewN B0.out.1 j)
  go_wp2_with fail
  go_ret
  exact ⟨rfl, HB.out⟩
end Go.Proofs.Ytadpihfegccpkaa.vsec
