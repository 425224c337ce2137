/- The laws' rInts and rPlot at equal lists and plots. -/
import Derived.Test.YtdjcbfeilkepmaaInts
import Derived.Test.YtdjcbfeilkepmaaPosX
import Derived.BigQuiet
import Derived.Deep.CutRange
import Derived.Deep.QuietTactic
namespace Go.Proofs.Ytdjcbfeilkepmaa.rpl
open Go.RowKit Go.Proofs.Ytdjcbfeilkepmaa.ints Go.Proofs.Ytdjcbfeilkepmaa.ats

set_option maxHeartbeats 400000 in
theorem rInts (xs : List Int) (A C : Option Addr) (n c d : Nat) (w : World) (hn : n ≤ 1048577) (h1 : RdI w w.heap.size A n xs) (h2 : RdI w w.heap.size C n xs) :
    Calls Try.prog 26 #[.slice A n c, .slice C n d] w fun e w' => e = .returned (.bool true) ∧ ∃ j, w' = w.drewN j := by
  have hs0 := int_ne_self (n : Int)
  go_enter Try.func26, Try.ntmps26
  go_wp2
  go_loopw [5] (fun i wr => ∃ k j : Nat, k ≤ n ∧ i = .int .i64 k ∧ wr = w.drewN j) (fun i _ => n - (intOf i).toNat)
  case atStart => exact ⟨0, 0, Nat.zero_le _, rfl, rfl⟩
  case round =>
    obtain ⟨k, j, hk, rfl, rfl⟩ := hrel
    by_cases hlt : k < n
    · obtain ⟨b1, o1, x, rfl, _, hx, e1⟩ := h1.at_ hlt
      obtain ⟨b2, o2, y, rfl, _, hy, e2⟩ := h2.at_ hlt
      obtain rfl : x = y := Option.some.inj (hx.symm.trans hy)
      have hlt2 : (k : Int) < (n : Int) := by omega
      have hs := int_ne_self x
      clear h1 h2 hx hy hs0
      go_wp2_with fail
      go_quiet (fail)
      go_wp2
      go_roundw
      case rel => exact ⟨k + 1, _, by omega, by go_num, by first | rfl | rw [World.drewN_drewN]⟩
      case measure => simp [intOf]; omega
    · clear h1 h2
      go_wp2
      go_ret
      exact ⟨rfl, j, rfl⟩

theorem int_eq_self (b : Int) : (b == b) = true := by simp
set_option maxRecDepth 100000 in
set_option maxHeartbeats 2000000 in
theorem rPlot (s a x y : Int) (xs : List Int) (A C : Option Addr) (n c d : Nat) (w : World) (hn : n ≤ 1048577) (h1 : RdI w w.heap.size A n xs) (h2 : RdI w w.heap.size C n xs) :
    Calls Try.prog 29 #[.agg #[.int .i64 s, .int .i64 a, .int .i64 x, .int .i64 y, .slice A n c], .agg #[.int .i64 s, .int .i64 a, .int .i64 x, .int .i64 y, .slice C n d]] w fun e w' => e = .returned (.bool true) ∧ Below w.heap.size w w' := by
  have B0 := Lib.hid ((newS 50 #[.int .i64 s, .int .i64 a, .int .i64 x, .int .i64 y, .slice A n c] w).alloc (.cells #[.int .i64 s, .int .i64 a, .int .i64 x, .int .i64 y, .slice C n d] 50))
  have D0 := (newS 50 #[.int .i64 s, .int .i64 a, .int .i64 x, .int .i64 y, .slice A n c] w).next 50 #[.int .i64 s, .int .i64 a, .int .i64 x, .int .i64 y, .slice C n d]
  rw [World.size_alloc] at D0
  have D0 := Lib.hid D0
  have E := Lib.hid (rInts xs A C n c d _ hn (h1.next B0.out.1) (h2.next B0.out.1))
  have q1 := int_eq_self s
  have q2 := int_eq_self a
  have q3 := int_eq_self x
  have q4 := int_eq_self y
  clear h1 h2
  go_enter Try.func29, Try.ntmps29
  go_upto_region 1 with fail
  generalize (w.alloc (.cells #[.int .i64 s, .int .i64 a, .int .i64 x, .int .i64 y, .slice A n c] 50)).alloc (.cells #[.int .i64 s, .int .i64 a, .int .i64 x, .int .i64 y, .slice C n d] 50) = W at *
  have p0 : W.cell? ⟨w.heap.size, 0, none⟩ = some (.int .i64 s) := B0.out.cell 0
  have p1 : W.cell? ⟨w.heap.size, 1, none⟩ = some (.int .i64 a) := B0.out.cell 1
  have p2 : W.cell? ⟨w.heap.size, 2, none⟩ = some (.int .i64 x) := B0.out.cell 2
  have p3 : W.cell? ⟨w.heap.size, 3, none⟩ = some (.int .i64 y) := B0.out.cell 3
  have p4 : W.cell? ⟨w.heap.size, 4, none⟩ = some (.slice A n c) := B0.out.cell 4
  have q0 : W.cell? ⟨(w.heap.size + 1), 0, none⟩ = some (.int .i64 s) := D0.out.cell 0
  have q1 : W.cell? ⟨(w.heap.size + 1), 1, none⟩ = some (.int .i64 a) := D0.out.cell 1
  have q2 : W.cell? ⟨(w.heap.size + 1), 2, none⟩ = some (.int .i64 x) := D0.out.cell 2
  have q3 : W.cell? ⟨(w.heap.size + 1), 3, none⟩ = some (.int .i64 y) := D0.out.cell 3
  have q4 : W.cell? ⟨(w.heap.size + 1), 4, none⟩ = some (.slice C n d) := D0.out.cell 4
  go_wp2_with fail
  refine E.out.mono ?_
  rintro e w1 ⟨rfl, j, rfl⟩
  have HE := Lib.hid (aid.below_drewN B0.out.1 j)
  go_wp2_with fail
  go_ret
  exact ⟨rfl, HE.out⟩
end Go.Proofs.Ytdjcbfeilkepmaa.rpl
