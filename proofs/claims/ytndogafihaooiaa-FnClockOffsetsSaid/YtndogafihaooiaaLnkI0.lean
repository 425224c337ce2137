/- impl's areLinks with its closures (areAll at numbers and at links); bothWays. -/
import Derived.Test.YtndogafihaooiaaLnkA
import Derived.Test.YtndogafihaooiaaLnkP
import Derived.Test.YtndogafihaooiaaClkI0
namespace Go.Proofs.Ytndogafihaooiaa.lnki
open Go.RowKit Go.Proofs.Ytndogafihaooiaa.ints Go.Proofs.Ytndogafihaooiaa.lst Go.Proofs.Ytndogafihaooiaa.in_ Go.Proofs.Ytndogafihaooiaa.ats Go.Proofs.Ytndogafihaooiaa.lnk Go.Proofs.Ytndogafihaooiaa.lnks Go.Proofs.Ytndogafihaooiaa.lnka Go.Proofs.Ytndogafihaooiaa.lnkp Go.Proofs.Ytndogafihaooiaa.intc

theorem isClock (x n : Int) (pn : Nat) (w : World) (hc : w.cell? ⟨pn, 0, none⟩ = some (.int .i64 n)) : Calls Try.prog 92 #[.int .i64 x, .pointer (some ⟨pn, 0, none⟩)] w fun e w' => e = .returned (.bool (isIn x 0 (n - 1))) ∧ w = w' := by
  by_cases h1 : 0 ≤ x
  · have g1 : decide (0 ≤ x) = true := decide_eq_true h1
    by_cases h2 : x < n
    · have g2 : isIn x 0 (n - 1) = true := decide_eq_true ⟨h1, by omega⟩
      rw [g2]
      go_enter Try.func92, Try.ntmps92
      go_wp2_with fail
      go_ret
      exact ⟨rfl, rfl⟩
    · have g2 : isIn x 0 (n - 1) = false := decide_eq_false (fun h => h2 (by omega))
      rw [g2]
      go_enter Try.func92, Try.ntmps92
      go_wp2_with fail
      go_ret
      exact ⟨rfl, rfl⟩
  · have g2 : isIn x 0 (n - 1) = false := decide_eq_false (fun h => h1 h.1)
    have g3 : x < 0 := by omega
    rw [g2]
    go_enter Try.func92, Try.ntmps92
    go_wp2_with fail
    go_ret
    exact ⟨rfl, rfl⟩

theorem allClock (nn : Int) (pn : Nat) (xs : List Int) (A : Option Addr) (n c : Nat) (w : World) (hpn : w.cell? ⟨pn, 0, none⟩ = some (.int .i64 nn)) (hn : n ≤ 1048577) (h1 : RdI w w.heap.size A n xs) :
    Calls Try.prog 70 #[(.func (.func 92) #[] #[.pointer (some ⟨pn, 0, none⟩)]), .slice A n c] w fun e w' => e = .returned (.bool (clki.alI 0 (nn - 1) xs n)) ∧ w = w' := by
  go_enter Try.func70, Try.ntmps70
  go_wp2
  go_loop [9] (fun i => ∃ k : Nat, k ≤ n ∧ i = .int .i64 k ∧ clki.alI 0 (nn - 1) xs k = true) (fun i => n - (intOf i).toNat)
  case atStart => exact ⟨0, Nat.zero_le _, rfl, rfl⟩
  case round =>
    obtain ⟨k, hk, rfl, hai⟩ := hrel
    by_cases hlt : k < n
    · obtain ⟨b, o, x, rfl, hbl, hx, hc⟩ := h1.at_ hlt
      have hlt2 : (k : Int) < (n : Int) := by omega
      have X := Lib.hid (isClock x nn pn w hpn)
      have hxd : xs.getD k 0 = x := by rw [List.getD_eq_getElem?_getD, hx]; rfl
      have HN := Lib.hid (fun (h : isIn (xs.getD k 0) 0 (nn - 1) = false) => clki.alI_no (xs := xs) (n := n) hlt h)
      have HS := Lib.hid (show clki.alI 0 (nn - 1) xs (k + 1) = (clki.alI 0 (nn - 1) xs k && isIn (xs.getD k 0) 0 (nn - 1)) from rfl)
      rw [hai] at HS
      rw [hxd] at HS HN
      clear hxd hx hai h1 hpn
      generalize isIn x 0 (nn - 1) = p at *
      cases p
      · have HE := Lib.hid (HN.out rfl)
        clear HN HS
        go_wp2_with fail
        refine X.out.mono ?_
        rintro e w' ⟨rfl, rfl⟩
        go_wp2_with fail
        go_ret
        exact ⟨by rw [HE.out]; rfl, rfl⟩
      · have HE := Lib.hid (show clki.alI 0 (nn - 1) xs (k + 1) = true from HS.out)
        clear HN HS
        go_wp2_with fail
        refine X.out.mono ?_
        rintro e w' ⟨rfl, rfl⟩
        go_wp2_with fail
        go_round
        case rel => exact ⟨k + 1, by omega, by go_num, HE.out⟩
        case measure => simp [intOf]; omega
    · obtain rfl : k = n := by omega
      have HO := Lib.hid hai
      clear h1 hai hpn
      go_wp2
      go_ret
      exact ⟨by rw [HO.out]; rfl, rfl⟩
theorem two_clock (nn : Int) (pn : Nat) (x y : Int) (W : World) (g : Nat) (hpn : W.cell? ⟨pn, 0, none⟩ = some (.int .i64 nn)) (hb : W.heap.size = g) :
    Calls Try.prog 70 #[(.func (.func 92) #[] #[.pointer (some ⟨pn, 0, none⟩)]), .slice (some ⟨g, 0, none⟩) 2 2] (W.alloc (.cells #[.int .i64 x, .int .i64 y] 3)) fun e w' => e = .returned (.bool (isIn x 0 (nn - 1) && isIn y 0 (nn - 1))) ∧ Below W.heap.size W w' := by
  subst hb
  have hlt := World.block_lt_of_cell? _ _ hpn
  refine (allClock nn pn [x, y] _ 2 2 _ (((Below.refl W.heap.size W).alloc (Nat.le_refl _) _).cell (p := ⟨pn, 0, none⟩) hlt |>.trans hpn) (by omega) (clki.rd_two x y W)).mono ?_
  rintro e w' ⟨rfl, rfl⟩
  refine ⟨?_, (Below.refl W.heap.size W).alloc (Nat.le_refl _) _⟩
  show Ending.returned (.bool ((true && isIn x 0 (nn - 1)) && isIn y 0 (nn - 1))) = _
  rw [Bool.true_and]

/-- One link between two different ones of n clocks. -/
def onL (n a b z : Int) : Bool := isIn a 0 (n - 1) && (isIn b 0 (n - 1) && (decide (a ≠ b) && isIn z (-1000000) 1000000))
theorem onL_is (ls : List Int) (n : Int) (k : Nat) : lnB ls n k = onL n (fld 3 ls k 0) (fld 3 ls k 1) (fld 3 ls k 2) := rfl
set_option maxRecDepth 100000 in
theorem isLink (n a b z : Int) (pn pf : Nat) (w : World) (hpn : w.cell? ⟨pn, 0, none⟩ = some (.int .i64 n)) (hpf : w.cell? ⟨pf, 0, none⟩ = some (.func (.func 92) #[] #[.pointer (some ⟨pn, 0, none⟩)])) :
    Calls Try.prog 94 #[.agg #[.int .i64 a, .int .i64 b, .int .i64 z], .pointer (some ⟨pf, 0, none⟩)] w fun e w' => e = .returned (.bool (onL n a b z)) ∧ Below w.heap.size w w' := by
  have S0 := Lib.hid (newS 50 #[.int .i64 a, .int .i64 b, .int .i64 z] w)
  have hl1 := World.block_lt_of_cell? _ _ hpn
  have hl2 := World.block_lt_of_cell? _ _ hpf
  have P := fun (W : World) (g : Nat) (hW : Below w.heap.size w W) (hb : W.heap.size = g) => two_clock n pn a b W g ((hW.cell (p := ⟨pn, 0, none⟩) hl1).trans hpn) hb
  have CF := Lib.hid (fun (W : World) (hW : Below w.heap.size w W) => (hW.cell (p := ⟨pf, 0, none⟩) hl2).trans hpf)
  have OF := Lib.hid (fun w => clki.isOffset z w)
  cases hp : isIn a 0 (n - 1) && isIn b 0 (n - 1)
  · have HE := Lib.hid (show onL n a b z = false by
      unfold onL
      rw [← Bool.and_assoc, hp]; rfl)
    rw [hp] at P
    have P := Lib.hid P
    clear hp hpn hpf hl1 hl2 OF
    go_enter Try.func94, Try.ntmps94
    go_upto_region 1 with fail
    generalize hW0 : w.alloc (.cells #[.int .i64 a, .int .i64 b, .int .i64 z] 50) = W0 at *
    have hsz : W0.heap.size = w.heap.size + 1 := by rw [← hW0, World.size_alloc]
    clear hW0
    have c0 := CF.out W0 S0.out.1
    have a0 : W0.cell? ⟨w.heap.size, 0, none⟩ = some (.int .i64 a) := S0.out.cell 0
    have a1 : W0.cell? ⟨w.heap.size, 1, none⟩ = some (.int .i64 b) := S0.out.cell 1
    go_wp2_with fail
    refine (P.out W0 _ S0.out.1 (by omega)).mono ?_
    rintro e w2 ⟨rfl, hb⟩
    have BX := Lib.hid (S0.out.1.trans (hb.mono (by omega)))
    clear hb c0 a0 a1
    go_wp2_with fail
    go_ret
    exact ⟨by rw [HE.out]; rfl, BX.out⟩
  rw [hp] at P
  have P := Lib.hid P
  by_cases hab : a = b
  · have HE := Lib.hid (show onL n a b z = false by
      unfold onL
      rw [← Bool.and_assoc, hp, decide_eq_false (fun h => h hab)]; rfl)
    have g1 : (a != b) = false := by rw [hab]; simp
    clear hp hpn hpf hl1 hl2 OF hab
    go_enter Try.func94, Try.ntmps94
    go_upto_region 1 with fail
    generalize hW0 : w.alloc (.cells #[.int .i64 a, .int .i64 b, .int .i64 z] 50) = W0 at *
    have hsz : W0.heap.size = w.heap.size + 1 := by rw [← hW0, World.size_alloc]
    clear hW0
    have c0 := CF.out W0 S0.out.1
    have a0 : W0.cell? ⟨w.heap.size, 0, none⟩ = some (.int .i64 a) := S0.out.cell 0
    have a1 : W0.cell? ⟨w.heap.size, 1, none⟩ = some (.int .i64 b) := S0.out.cell 1
    go_wp2_with fail
    refine (P.out W0 _ S0.out.1 (by omega)).mono ?_
    rintro e w2 ⟨rfl, hb⟩
    have BX := Lib.hid (S0.out.1.trans (hb.mono (by omega)))
    have b0 : w2.cell? ⟨w.heap.size, 0, none⟩ = some (.int .i64 a) := (hb.cell (p := ⟨w.heap.size, 0, none⟩) (show w.heap.size < W0.heap.size by omega)).trans a0
    have b1 : w2.cell? ⟨w.heap.size, 1, none⟩ = some (.int .i64 b) := (hb.cell (p := ⟨w.heap.size, 1, none⟩) (show w.heap.size < W0.heap.size by omega)).trans a1
    clear hb c0 a0 a1
    go_wp2_with fail
    go_ret
    exact ⟨by rw [HE.out]; rfl, BX.out⟩
  have HE := Lib.hid (show onL n a b z = isIn z (-1000000) 1000000 by
    unfold onL
    rw [← Bool.and_assoc, hp, decide_eq_true hab]; rfl)
  have g1 : (a != b) = true := bne_iff_ne.mpr hab
  clear hp hpn hpf hl1 hl2 hab
  generalize isIn z (-1000000) 1000000 = r at *
  go_enter Try.func94, Try.ntmps94
  go_upto_region 1 with fail
  generalize hW0 : w.alloc (.cells #[.int .i64 a, .int .i64 b, .int .i64 z] 50) = W0 at *
  have hsz : W0.heap.size = w.heap.size + 1 := by rw [← hW0, World.size_alloc]
  clear hW0
  have c0 := CF.out W0 S0.out.1
  have a0 : W0.cell? ⟨w.heap.size, 0, none⟩ = some (.int .i64 a) := S0.out.cell 0
  have a1 : W0.cell? ⟨w.heap.size, 1, none⟩ = some (.int .i64 b) := S0.out.cell 1
  have a2 : W0.cell? ⟨w.heap.size, 2, none⟩ = some (.int .i64 z) := S0.out.cell 2
  go_wp2_with fail
  refine (P.out W0 _ S0.out.1 (by omega)).mono ?_
  rintro e w2 ⟨rfl, hb⟩
  have BX := Lib.hid (S0.out.1.trans (hb.mono (by omega)))
  have b0 : w2.cell? ⟨w.heap.size, 0, none⟩ = some (.int .i64 a) := (hb.cell (p := ⟨w.heap.size, 0, none⟩) (show w.heap.size < W0.heap.size by omega)).trans a0
  have b1 : w2.cell? ⟨w.heap.size, 1, none⟩ = some (.int .i64 b) := (hb.cell (p := ⟨w.heap.size, 1, none⟩) (show w.heap.size < W0.heap.size by omega)).trans a1
  have b2 : w2.cell? ⟨w.heap.size, 2, none⟩ = some (.int .i64 z) := (hb.cell (p := ⟨w.heap.size, 2, none⟩) (show w.heap.size < W0.heap.size by omega)).trans a2
  clear hb c0 a0 a1 a2
  go_wp2_with fail
  refine (OF.out _).mono ?_
  rintro e w3 ⟨rfl, rfl⟩
  clear b0 b1 b2
  go_wp2_with fail
  go_ret
  exact ⟨by rw [HE.out]; rfl, BX.out⟩

set_option maxRecDepth 100000 in
theorem areAllLink (nn : Int) (pn pf : Nat) (ls : List Int) (A : Option Addr) (m c : Nat) (w : World) (hpn : w.cell? ⟨pn, 0, none⟩ = some (.int .i64 nn)) (hpf : w.cell? ⟨pf, 0, none⟩ = some (.func (.func 92) #[] #[.pointer (some ⟨pn, 0, none⟩)])) (hm : m ≤ 1048577) (h1 : RdZ 3 w w.heap.size A m ls) :
    Calls Try.prog 93 #[.func (.func 94) #[] #[.pointer (some ⟨pf, 0, none⟩)], .slice A m c] w fun e w' => e = .returned (.bool (lkT ls nn m)) ∧ Below w.heap.size w w' := by
  have hl1 := World.block_lt_of_cell? _ _ hpn
  have hl2 := World.block_lt_of_cell? _ _ hpf
  have P1 := Lib.hid (fun (W : World) (hW : Below w.heap.size w W) => (hW.cell (p := ⟨pn, 0, none⟩) hl1).trans hpn)
  have P2 := Lib.hid (fun (W : World) (hW : Below w.heap.size w W) => (hW.cell (p := ⟨pf, 0, none⟩) hl2).trans hpf)
  have HR := Lib.hid h1
  clear hpn hpf hl1 hl2 h1
  go_enter Try.func93, Try.ntmps93
  go_wp2_with fail
  go_loopw [9] (fun i wr => ∃ k : Nat, k ≤ m ∧ i = .int .i64 k ∧ Below w.heap.size w wr ∧ lkT ls nn k = true) (fun i _ => m - (intOf i).toNat)
  case atStart => exact ⟨0, Nat.zero_le _, rfl, Below.refl _ _, rfl⟩
  case round =>
    obtain ⟨k, hk, rfl, hb, hon⟩ := hrel
    by_cases hlt : k < m
    · obtain ⟨b1, o1, rfl, l1, p0, p1, p2⟩ := cells3 (HR.out.below hb (Nat.le_refl _)) hlt
      have hlt2 : (k : Int) < (m : Int) := by omega
      have HS := Lib.hid (show lkT ls nn (k + 1) = (lkT ls nn k && onL nn (fld 3 ls k 0) (fld 3 ls k 1) (fld 3 ls k 2)) from rfl)
      rw [hon] at HS
      have HN := Lib.hid (fun (h : onL nn (fld 3 ls k 0) (fld 3 ls k 1) (fld 3 ls k 2) = false) => lkT_no hlt h)
      have HB := Lib.hid (hb.alloc hb.size (.cells #[.int .i64 (fld 3 ls k 0), .int .i64 (fld 3 ls k 1), .int .i64 (fld 3 ls k 2)] 50))
      have X1 := Lib.hid (fun W (hW : Below w.heap.size w W) => isLink nn (fld 3 ls k 0) (fld 3 ls k 1) (fld 3 ls k 2) pn pf W (P1.out W hW) (P2.out W hW))
      clear hb hon P1 P2
      generalize onL nn (fld 3 ls k 0) (fld 3 ls k 1) (fld 3 ls k 2) = p at *
      generalize fld 3 ls k 0 = x at *
      generalize fld 3 ls k 1 = y at *
      generalize fld 3 ls k 2 = z at *
      cases p
      · have HE := Lib.hid (HN.out rfl)
        clear HN HS
        go_wp2_with fail
        refine (X1.out _ HB.out).mono ?_
        rintro e w2 ⟨rfl, hb2⟩
        have HC := Lib.hid (HB.out.trans (hb2.mono HB.out.size))
        clear p0 p1 p2
        go_wp2_with fail
        go_ret
        exact ⟨by rw [HE.out]; rfl, HC.out⟩
      · have HE := Lib.hid (show lkT ls nn (k + 1) = true from HS.out)
        clear HN HS
        go_wp2_with fail
        refine (X1.out _ HB.out).mono ?_
        rintro e w2 ⟨rfl, hb2⟩
        have HC := Lib.hid (HB.out.trans (hb2.mono HB.out.size))
        clear p0 p1 p2
        go_wp2_with fail
        go_roundw
        case rel => exact ⟨k + 1, by omega, by go_num, HC.out, HE.out⟩
        case measure => simp [intOf]; omega
    · obtain rfl : k = m := by omega
      have HO := Lib.hid hon
      have HB := Lib.hid hb
      clear hon hb
      go_wp2_with fail
      go_ret
      exact ⟨by rw [HO.out]; rfl, HB.out⟩

theorem six_cells (x y z : Int) : ∀ u ∈ [Value.int .i64 x, .int .i64 y, .int .i64 z, .int .i64 y, .int .i64 x, .int .i64 (-z)], u.oneCell' = true := by
  intro u hu
  simp only [List.mem_cons, List.not_mem_nil, or_false] at hu
  rcases hu with rfl | rfl | rfl | rfl | rfl | rfl <;> rfl
set_option maxRecDepth 100000 in
set_option maxHeartbeats 4000000 in
theorem bothWays (ls : List Int) (n : Int) (A : Option Addr) (m c : Nat) (w : World) (hm : m ≤ 12) (hv : lkT ls n m = true) (h1 : RdZ 3 w w.heap.size A m ls) :
    Calls Try.prog 95 #[.slice A m c] w fun e w' => ∃ v, e = .returned v ∧ w'.ownsRow w.heap.size 50 3 v (2 * m) (cellsI (wys ls m)) ∧ Below w.heap.size w w' := by
  obtain ⟨i0, hi, hz0, hz1, hz2⟩ := info_parts infoL
  have HR := Lib.hid h1
  have HV := Lib.hid (fun k (hk : k < m) => (lnB_yes (lkT_at hv hk)).2.2.2)
  have HW := Lib.hid (fun k => show cellsI (wys ls (k + 1)) = cellsI (wys ls k) ++ [.int .i64 (fld 3 ls k 0), .int .i64 (fld 3 ls k 1), .int .i64 (fld 3 ls k 2), .int .i64 (fld 3 ls k 1), .int .i64 (fld 3 ls k 0), .int .i64 (-fld 3 ls k 2)] by unfold cellsI; rw [wys, List.map_append]; rfl)
  clear h1 hv
  go_enter Try.func95, Try.ntmps95
  go_wp2_with fail
  go_loopw [3, 8] (fun v i wr => ∃ k : Nat, k ≤ m ∧ i = .int .i64 k ∧ wr.ownsRow w.heap.size 50 3 v (2 * k) (cellsI (wys ls k)) ∧ Below w.heap.size w wr) (fun _ i _ => m - (intOf i).toNat)
  case atStart => exact ⟨0, Nat.zero_le _, rfl, World.ownsRow_nil w _ _ _, Below.refl _ _⟩
  case round =>
    obtain ⟨k, hk, rfl, ho, hb⟩ := hrel
    by_cases hlt : k < m
    · obtain ⟨b1, o1, rfl, l1, p0, p1, p2⟩ := cells3 (HR.out.below hb (Nat.le_refl _)) hlt
      have hlt2 : (k : Int) < (m : Int) := by omega
      have hs := hb.size
      have hvk := HV.out k hlt
      have e1 : IntKind.i64.wrap (-fld 3 ls k 2) = -fld 3 ls k 2 := IntWalk.i64_in _ (by omega)
      have HWk := Lib.hid (HW.out k)
      have O1 := ho.alloc (.cells #[.int .i64 (fld 3 ls k 0), .int .i64 (fld 3 ls k 1), .int .i64 (fld 3 ls k 2)] 50)
      have HB := Lib.hid (hb.alloc hs (.cells #[.int .i64 (fld 3 ls k 0), .int .i64 (fld 3 ls k 1), .int .i64 (fld 3 ls k 2)] 50))
      have S1 := Lib.hid (newS 50 #[.int .i64 (fld 3 ls k 0), .int .i64 (fld 3 ls k 1), .int .i64 (fld 3 ls k 2)] wr)
      have hsz := World.size_alloc wr (.cells #[.int .i64 (fld 3 ls k 0), .int .i64 (fld 3 ls k 1), .int .i64 (fld 3 ls k 2)] 50)
      clear ho hb HV HW hvk
      generalize fld 3 ls k 0 = x at *
      generalize fld 3 ls k 1 = y at *
      generalize fld 3 ls k 2 = z at *
      go_upto_region 5 with fail
      clear p0 p1 p2
      generalize wr.alloc (.cells #[.int .i64 x, .int .i64 y, .int .i64 z] 50) = W1 at *
      have x0 : W1.cell? ⟨wr.heap.size, 0, none⟩ = some (.int .i64 x) := S1.out.cell 0
      have x1 : W1.cell? ⟨wr.heap.size, 1, none⟩ = some (.int .i64 y) := S1.out.cell 1
      have x2 : W1.cell? ⟨wr.heap.size, 2, none⟩ = some (.int .i64 z) := S1.out.cell 2
      have O2 := O1.alloc (.cells #[.int .i64 x, .int .i64 y, .int .i64 z, .int .i64 y, .int .i64 x, .int .i64 (-z)] 50)
      have hs2 : w.heap.size ≤ W1.heap.size := by omega
      have HB2 := Lib.hid (HB.out.alloc hs2 (.cells #[.int .i64 x, .int .i64 y, .int .i64 z, .int .i64 y, .int .i64 x, .int .i64 (-z)] 50))
      have hs3 : w.heap.size ≤ (W1.alloc (.cells #[.int .i64 x, .int .i64 y, .int .i64 z, .int .i64 y, .int .i64 x, .int .i64 (-z)] 50)).heap.size := by rw [World.size_alloc]; omega
      clear hsz
      go_wp2_with (at_builtin; refine wpList_append_own _ rfl (.tmp 12) (.tmp 22) 42 rfl w.heap.size 50 i0 (.agg #[.int .i64 0, .int .i64 0, .int .i64 0]) 3 24 Try.underlying42 hi hz0 hz1 hz2 rfl (by decide) _ (2 * k) (cellsI (wys ls k)) rfl O2 ⟨W1.heap.size, 0, none⟩ 2 2 [Value.int .i64 x, .int .i64 y, .int .i64 z, .int .i64 y, .int .i64 x, .int .i64 (-z)] rfl rfl (cells_new W1 50 #[.int .i64 x, .int .i64 y, .int .i64 z, .int .i64 y, .int .i64 x, .int .i64 (-z)]) (six_cells x y z) (by unfold maxLen; omega) (by omega) hs3 ?_; intro v' w3 hown' hgrow hnil)
      have OX := Lib.hid (show w3.ownsRow w.heap.size 50 3 v' (2 * (k + 1)) (cellsI (wys ls (k + 1))) by rw [HWk.out]; exact hown')
      have BX := Lib.hid (HB2.out.grown hgrow hs3 (own_.row_ge O2))
      clear hown' hgrow hnil O1 O2 x0 x1 x2 HB HB2
      go_roundw
      case rel => exact ⟨k + 1, by omega, by go_num, OX.out, BX.out⟩
      case measure => simp [intOf]; omega
    · obtain rfl : k = m := by omega
      have HO := Lib.hid ho
      have HB := Lib.hid hb
      clear ho hb
      go_wp2_with fail
      go_ret
      exact ⟨_, rfl, HO.out, HB.out⟩
end Go.Proofs.Ytndogafihaooiaa.lnki
