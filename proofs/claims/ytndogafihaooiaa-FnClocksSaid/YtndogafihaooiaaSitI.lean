/- impl's functions of chapter 10 on points and on the validity of lists: isOnGround, isTime, isArrival, isReach, absoluteOf, distanceOf, areAll at sites and at ints, slices.Index and Contains at sites, IsValidSites, SiteDistance, areArrivals. -/
import Derived.Test.YtndogafihaooiaaSitS
import Derived.Test.YtndogafihaooiaaSitE
import Derived.Deep.RegionHeld3
import Derived.Deep.CutRange
namespace Go.Proofs.Ytndogafihaooiaa.siti
open Go.RowKit Go.Proofs.Ytndogafihaooiaa.ints Go.Proofs.Ytndogafihaooiaa.lst Go.Proofs.Ytndogafihaooiaa.sit Go.Proofs.Ytndogafihaooiaa.in_ Go.Proofs.Ytndogafihaooiaa.ats Go.Proofs.Ytndogafihaooiaa.sits

theorem absoluteOf (x : Int) (w : World) (hx : -8000000 ≤ x) (hx2 : x ≤ 8000000) :
    Calls Try.prog 62 #[.int .i64 x] w fun e w' => e = .returned (.int .i64 (x.natAbs : Int)) ∧ w = w' := by
  by_cases h : x < 0
  · have hm : x < -x := by omega
    rw [show (x.natAbs : Int) = -x by omega]
    go_enter Try.func62, Try.ntmps62
    go_wp2
    all_goals
      go_ret
      first | exact ⟨rfl, rfl⟩ | (exfalso; omega)
  · have hm : ¬ x < -x := by omega
    have g : decide (x < -x) = false := decide_eq_false hm
    rw [show (x.natAbs : Int) = x by omega]
    go_enter Try.func62, Try.ntmps62
    go_wp2
    all_goals
      go_ret
      first | exact ⟨rfl, rfl⟩ | (exfalso; omega)

/-- Is (x, y) one of the first k sites? -/
def hasB (zs : List Int) (x y : Int) : Nat → Bool
  | 0 => false
  | k + 1 => hasB zs x y k || decide (x = fld 2 zs k 0 ∧ y = fld 2 zs k 1)
theorem hasB_new (zs : List Int) (i k : Nat) : newT zs i k = !hasB zs (fld 2 zs i 0) (fld 2 zs i 1) k := by
  induction k with
  | zero => rfl
  | succ k ih =>
    rw [newT, hasB, ih, Bool.not_or]
    congr 2
    unfold sameB
    rw [decide_eq_decide]
    exact ⟨fun h => ⟨h.1.symm, h.2.symm⟩, fun h => ⟨h.1.symm, h.2.symm⟩⟩
theorem hasB_at {zs : List Int} {x y : Int} {n k : Nat} (hk : k < n) (h : x = fld 2 zs k 0 ∧ y = fld 2 zs k 1) : hasB zs x y n = true := by
  induction n with
  | zero => omega
  | succ n ih =>
    rw [hasB]
    by_cases e : k = n
    · subst e; rw [decide_eq_true h]; simp
    · rw [ih (by omega)]; rfl

/- The first k sites of a list. -/
theorem fld_take {zs : List Int} {k j i : Nat} (hj : j < k) (hi : i < 2) : fld 2 (zs.take (k * 2)) j i = fld 2 zs j i := by
  unfold fld
  rw [List.getD_eq_getElem?_getD, List.getD_eq_getElem?_getD, List.getElem?_take, if_pos (by omega)]
theorem rd_take {w : World} {B n k : Nat} {A : Option Addr} {zs : List Int} (h : RdZ 2 w B A n zs) (hk : k ≤ n) : RdZ 2 w B A k (zs.take (k * 2)) :=
  ⟨by rw [List.length_take, h.1]; omega, fun h0 => by
    obtain ⟨b, o, e, hb, hc⟩ := h.2 (by omega)
    refine ⟨b, o, e, hb, fun j x hx => hc j x ?_⟩
    have hj := (List.getElem?_eq_some_iff.1 hx).1
    rw [List.length_take] at hj
    rwa [List.getElem?_take, if_pos (by omega)] at hx⟩
theorem hasB_take {zs : List Int} {x y : Int} {n k : Nat} (hk : k ≤ n) : hasB (zs.take (n * 2)) x y k = hasB zs x y k := by
  induction k with
  | zero => rfl
  | succ k ih => rw [hasB, hasB, ih (by omega), fld_take (by omega) (by omega), fld_take (by omega) (by omega)]
theorem onT_take {zs : List Int} {n k : Nat} (hk : k ≤ n) : onT (zs.take (n * 2)) k = onT zs k := by
  induction k with
  | zero => rfl
  | succ k ih => rw [onT, onT, ih (by omega), fld_take (by omega) (by omega), fld_take (by omega) (by omega)]
theorem ds_take {zs : List Int} {x y : Int} {n k : Nat} (hk : k < n) : ds (zs.take (n * 2)) x y k = ds zs x y k := by
  unfold ds
  rw [fld_take hk (by omega), fld_take hk (by omega)]
theorem dsL_take {zs : List Int} {x y : Int} {n : Nat} : dsL (zs.take (n * 2)) x y n = dsL zs x y n := by
  unfold dsL
  exact List.map_congr_left fun k hk => ds_take (List.mem_range.mp hk)

end Go.Proofs.Ytndogafihaooiaa.siti
