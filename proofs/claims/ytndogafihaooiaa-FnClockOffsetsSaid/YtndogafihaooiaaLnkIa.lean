/- impl's areLinks. -/
import Derived.Test.YtndogafihaooiaaLnkI0
namespace Go.Proofs.Ytndogafihaooiaa.lnki
open Go.RowKit Go.Proofs.Ytndogafihaooiaa.ints Go.Proofs.Ytndogafihaooiaa.lst Go.Proofs.Ytndogafihaooiaa.in_ Go.Proofs.Ytndogafihaooiaa.ats Go.Proofs.Ytndogafihaooiaa.lnk Go.Proofs.Ytndogafihaooiaa.lnks Go.Proofs.Ytndogafihaooiaa.lnka Go.Proofs.Ytndogafihaooiaa.lnkp Go.Proofs.Ytndogafihaooiaa.intc

set_option maxRecDepth 100000 in
set_option maxHeartbeats 4000000 in
theorem areLinks (n : Int) (ls : List Int) (A : Option Addr) (m c : Nat) (w : World) (hm : m ≤ 1048577) (h1 : RdZ 3 w w.heap.size A m ls) :
    Calls Try.prog 76 #[.int .i64 n, .slice A m c] w fun e w' => e = .returned (.bool (lkB ls n m)) ∧ Below w.heap.size w w' := by
  have B0 := Lib.hid ((Below.refl w.heap.size w).alloc (Nat.le_refl _) (.cells #[.int .i64 n] 3))
  have S0 := Lib.hid (newS 3 #[.int .i64 n] w)
  by_cases a1 : n < 1
  · have HE := Lib.hid (show lkB ls n m = false by unfold lkB; rw [show isIn n 1 6 = false from decide_eq_false (by omega)]; simp)
    clear h1
    go_enter Try.func76, Try.ntmps76
    go_upto_region 1 with fail
    generalize w.alloc (.cells #[.int .i64 n] 3) = W0 at *
    have c0 : W0.cell? ⟨w.heap.size, 0, none⟩ = some (.int .i64 n) := S0.out.cell 0
    go_wp2_with fail
    go_ret
    exact ⟨by rw [HE.out]; rfl, B0.out⟩
  by_cases a2 : 6 < n
  · have HE := Lib.hid (show lkB ls n m = false by unfold lkB; rw [show isIn n 1 6 = false from decide_eq_false (by omega)]; simp)
    clear h1
    go_enter Try.func76, Try.ntmps76
    go_upto_region 1 with fail
    generalize w.alloc (.cells #[.int .i64 n] 3) = W0 at *
    have c0 : W0.cell? ⟨w.heap.size, 0, none⟩ = some (.int .i64 n) := S0.out.cell 0
    go_wp2_with fail
    go_ret
    exact ⟨by rw [HE.out]; rfl, B0.out⟩
  by_cases a3 : 12 < m
  · have HE := Lib.hid (show lkB ls n m = false by unfold lkB; rw [decide_eq_false (show ¬ m ≤ 12 by omega)]; simp)
    have a4 : 12 < (m : Int) := by omega
    clear h1 a3
    go_enter Try.func76, Try.ntmps76
    go_upto_region 1 with fail
    generalize w.alloc (.cells #[.int .i64 n] 3) = W0 at *
    have c0 : W0.cell? ⟨w.heap.size, 0, none⟩ = some (.int .i64 n) := S0.out.cell 0
    go_wp2_with fail
    go_ret
    exact ⟨by rw [HE.out]; rfl, B0.out⟩
  have a4 : ¬ 12 < (m : Int) := by omega
  have HE := Lib.hid (show lkB ls n m = lkT ls n m by unfold lkB; rw [show isIn n 1 6 = true from decide_eq_true (by omega), decide_eq_true (show m ≤ 12 by omega)]; simp)
  have CA := Lib.hid (fun pn pf W (hW : Below w.heap.size w W) hpn hpf => areAllLink n pn pf ls A m c W hpn hpf hm (h1.next hW))
  generalize lkT ls n m = r at *
  clear h1 a3
  go_enter Try.func76, Try.ntmps76
  go_upto_region 1 with fail
  generalize hW0 : w.alloc (.cells #[.int .i64 n] 3) = W0 at *
  have hsz : W0.heap.size = w.heap.size + 1 := by rw [← hW0, World.size_alloc]
  clear hW0
  have c0 : W0.cell? ⟨w.heap.size, 0, none⟩ = some (.int .i64 n) := S0.out.cell 0
  have hwl : w.heap.size < W0.heap.size := by omega
  have AF := Lib.hid (newS 78 #[.func (.func 92) #[] #[.pointer (some ⟨w.heap.size, 0, none⟩)]] W0)
  have hone : (Value.func (.func 92) #[] #[.pointer (some ⟨w.heap.size, 0, none⟩)]).oneCell' = true := rfl
  have ST : (store ⟨w.heap.size + 1, 0, none⟩ (.func (.func 92) #[] #[.pointer (some ⟨w.heap.size, 0, none⟩)])).run Try.prog (W0.alloc (.cells #[.nilFunc] 78)) = .ok () (W0.alloc (.cells #[.func (.func 92) #[] #[.pointer (some ⟨w.heap.size, 0, none⟩)]] 78)) := by
    rw [← hsz, run_store _ _ _ _ _ hone, (newS 78 #[.nilFunc] W0).cell 0, World.setCell_alloc_new]
    simp
  go_upto_region 4 with fail
  clear ST hone
  generalize W0.alloc (.cells #[.func (.func 92) #[] #[.pointer (some ⟨w.heap.size, 0, none⟩)]] 78) = W1 at *
  have BX := Lib.hid (B0.out.trans (AF.out.1.mono B0.out.size))
  have d0 : W1.cell? ⟨w.heap.size, 0, none⟩ = some (.int .i64 n) := (AF.out.1.cell (p := ⟨w.heap.size, 0, none⟩) hwl).trans c0
  have f0 : W1.cell? ⟨w.heap.size + 1, 0, none⟩ = some (.func (.func 92) #[] #[.pointer (some ⟨w.heap.size, 0, none⟩)]) := by rw [← hsz]; exact AF.out.cell 0
  clear c0
  go_wp2_with fail
  refine (CA.out w.heap.size (w.heap.size + 1) W1 BX.out d0 f0).mono ?_
  rintro e w3 ⟨rfl, hb⟩
  have BY := Lib.hid (BX.out.trans (hb.mono BX.out.size))
  clear hb d0 f0
  go_wp2_with fail
  go_ret
  exact ⟨by rw [HE.out]; rfl, BY.out⟩
end Go.Proofs.Ytndogafihaooiaa.lnki
