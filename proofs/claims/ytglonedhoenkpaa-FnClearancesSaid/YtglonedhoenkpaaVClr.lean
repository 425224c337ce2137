/- The laws' rCleared: two lists of Cleareds that read alike. -/
import Derived.Test.YtglonedhoenkpaaLvlE
import Derived.BigQuiet
import Derived.WalkKit
namespace Go.Proofs.Ytglonedhoenkpaa.vclr
open Go.RowKit Go.Proofs.Ytglonedhoenkpaa.ats Go.Proofs.Ytglonedhoenkpaa.ints Go.Proofs.Ytglonedhoenkpaa.lst Go.Proofs.Ytglonedhoenkpaa.lvle

theorem int_ne_self (x : Int) : (x != x) = false := by simp
set_option maxHeartbeats 1000000 in
theorem rCleared (zs : List Int) (A C : Option Addr) (n c d : Nat) (w : World) (hn : n ≤ 1048577) (h1 : RdZ 5 w w.heap.size A n zs) (h2 : RdZ 5 w w.heap.size C n zs) :
    Calls Try.prog 18 #[.slice A n c, .slice C n d] w fun e w' => e = .returned (.bool true) ∧ ∃ j, w' = w.drewN j := by
  have hnn := int_ne_self (n : Int)
  go_enter Try.func18, Try.ntmps18
  go_wp2
  go_loopw [5] (fun i wr => ∃ k j : Nat, k ≤ n ∧ i = .int .i64 k ∧ wr = w.drewN j) (fun i _ => n - (intOf i).toNat)
  case atStart => exact ⟨0, 0, Nat.zero_le _, rfl, rfl⟩
  case round =>
    obtain ⟨k, j, hk, rfl, rfl⟩ := hrel
    by_cases hlt : k < n
    · obtain ⟨b1, o1, rfl, l1, p0, p1, p2, p3, p4⟩ := cellsE h1 hlt
      obtain ⟨b2, o2, rfl, l2, r0, r1, r2, r3, r4⟩ := cellsE h2 hlt
      have hlt2 : (k : Int) < (n : Int) := by omega
      clear h1 h2
      generalize fld 5 zs k 0 = x0 at *
      have hs0 := int_ne_self x0
      have ht0 : (x0 == x0) = true := by simp
      generalize fld 5 zs k 1 = x1 at *
      have hs1 := int_ne_self x1
      have ht1 : (x1 == x1) = true := by simp
      generalize fld 5 zs k 2 = x2 at *
      have hs2 := int_ne_self x2
      have ht2 : (x2 == x2) = true := by simp
      generalize fld 5 zs k 3 = x3 at *
      have hs3 := int_ne_self x3
      have ht3 : (x3 == x3) = true := by simp
      generalize fld 5 zs k 4 = x4 at *
      have hs4 := int_ne_self x4
      have ht4 : (x4 == x4) = true := by simp
      go_wp2_with fail
      go_quiet (fail)
      go_wp2
      go_roundw
      case rel => exact ⟨k + 1, _, by omega, by go_num, by first | rfl | rw [World.drewN_drewN]⟩
      case measure => simp [intOf]; omega
    · clear h1 h2
      go_wp2
      go_ret
      exact ⟨rfl, j, rfl⟩
end Go.Proofs.Ytglonedhoenkpaa.vclr
