/- impl's lists of chapter 18: areAll at Cleareds, conflictsOf. -/
import Derived.Test.YtglonedhoenkpaaLvlA
import Derived.Test.YtglonedhoenkpaaLvlE
import Derived.Test.YtglonedhoenkpaaIntC
import Derived.Laws.Small
import Derived.Deep.QuietTactic
import Derived.BigQuiet
import Derived.Deep.RegionHeld3
import Derived.Deep.CutRange
import Derived.Deep.CutBlock
namespace Go.Proofs.Ytglonedhoenkpaa.lvlb
open Go.RowKit Go.Proofs.Ytglonedhoenkpaa.ints Go.Proofs.Ytglonedhoenkpaa.lst Go.Proofs.Ytglonedhoenkpaa.in_ Go.Proofs.Ytglonedhoenkpaa.ats Go.Proofs.Ytglonedhoenkpaa.putq Go.Proofs.Ytglonedhoenkpaa.vel Go.Proofs.Ytglonedhoenkpaa.lvl Go.Proofs.Ytglonedhoenkpaa.lvle Go.Proofs.Ytglonedhoenkpaa.lvla

set_option maxRecDepth 100000 in
set_option maxHeartbeats 2000000 in
theorem areAllCleared (zs : List Int) (A : Option Addr) (n c : Nat) (w : World) (hn : n ≤ 1048577) (h1 : RdZ 5 w w.heap.size A n zs) :
    Calls Try.prog 63 #[.func (.func 57) #[] #[], .slice A n c] w fun e w' => e = .returned (.bool (alT zs n)) ∧ Below w.heap.size w w' := by
  go_enter Try.func63, Try.ntmps63
  go_wp2
  go_loopw [9] (fun i wr => ∃ k : Nat, k ≤ n ∧ i = .int .i64 k ∧ Below w.heap.size w wr ∧ alT zs k = true) (fun i _ => n - (intOf i).toNat)
  case atStart => exact ⟨0, Nat.zero_le _, rfl, Below.refl _ _, rfl⟩
  case round =>
    obtain ⟨k, hk, rfl, hb, hon⟩ := hrel
    by_cases hlt : k < n
    · obtain ⟨b1, o1, rfl, l1, p0, p1, p2, p3, p4⟩ := cellsE (h1.below hb (Nat.le_refl _)) hlt
      have hlt2 : (k : Int) < (n : Int) := by omega
      have X1 := Lib.hid (fun w => isCleared (fld 5 zs k 0) (fld 5 zs k 1) (fld 5 zs k 2) (fld 5 zs k 3) (fld 5 zs k 4) w)
      have HS := Lib.hid (show alT zs (k + 1) = (alT zs k && clB (fld 5 zs k 0) (fld 5 zs k 1) (fld 5 zs k 2) (fld 5 zs k 3) (fld 5 zs k 4)) from rfl)
      have HX := Lib.hid (fun (h : alT zs (k + 1) = false) => alT_cut h (show k + 1 ≤ n by omega))
      rw [hon, Bool.true_and] at HS
      have HB := Lib.hid (hb.alloc hb.size (.cells #[.int .i64 (fld 5 zs k 0), .int .i64 (fld 5 zs k 1), .int .i64 (fld 5 zs k 2), .int .i64 (fld 5 zs k 3), .int .i64 (fld 5 zs k 4)] 26))
      clear h1 hb hon
      generalize clB (fld 5 zs k 0) (fld 5 zs k 1) (fld 5 zs k 2) (fld 5 zs k 3) (fld 5 zs k 4) = pb at *
      generalize fld 5 zs k 0 = u0 at *
      generalize fld 5 zs k 1 = u1 at *
      generalize fld 5 zs k 2 = u2 at *
      generalize fld 5 zs k 3 = u3 at *
      generalize fld 5 zs k 4 = u4 at *
      cases pb
      · have HN := Lib.hid (HX.out HS.out)
        clear HX HS
        go_wp2_with fail
        refine (X1.out _).mono ?_
        rintro e w2 ⟨rfl, hb2⟩
        have HBB := Lib.hid (HB.out.trans (hb2.mono HB.out.size))
        clear hb2
        go_wp2_with fail
        go_ret
        exact ⟨by rw [HN.out]; rfl, HBB.out⟩
      · have HT := Lib.hid HS.out
        clear HX HS
        go_wp2_with fail
        refine (X1.out _).mono ?_
        rintro e w2 ⟨rfl, hb2⟩
        have HBB := Lib.hid (HB.out.trans (hb2.mono HB.out.size))
        clear hb2 p0 p1 p2 p3 p4
        go_wp2_with fail
        go_roundw
        case rel => exact ⟨k + 1, by omega, by go_num, HBB.out, HT.out⟩
        case measure => simp [intOf]; omega
    · obtain rfl : k = n := by omega
      have HO := Lib.hid hon
      have HB := Lib.hid hb
      clear h1 hb hon
      go_wp2
      go_ret
      exact ⟨by rw [HO.out]; rfl, HB.out⟩

theorem own_app {w : World} {B e : Nat} {v : Value} {L : List Int} {x : Int} (h : w.ownsRow B e 1 v (L.length + 1) (cellsI L ++ [.int .i64 x])) : w.ownsRow B e 1 v (L ++ [x]).length (cellsI (L ++ [x])) := own_growI h
set_option maxRecDepth 100000 in
set_option maxHeartbeats 4000000 in
theorem conflictsOf (zs : List Int) (a l u f t : Int) (A : Option Addr) (n c : Nat) (w : World) (hn : n ≤ 1048577) (hv : alT zs n = true) (hx : clB a l u f t = true) (h1 : RdZ 5 w w.heap.size A n zs) :
    Calls Try.prog 59 #[.slice A n c, .agg #[.int .i64 a, .int .i64 l, .int .i64 u, .int .i64 f, .int .i64 t]] w fun e w' => ∃ v, e = .returned v ∧ w'.ownsRow w.heap.size 3 1 v (cfL zs a l u f t n).length (cellsI (cfL zs a l u f t n)) ∧ Below w.heap.size w w' := by
  have S0 := Lib.hid (newS 26 #[.int .i64 a, .int .i64 l, .int .i64 u, .int .i64 f, .int .i64 t] w)
  have HD := Lib.hid (fun k (hk : k < n) W => doConflict (fld 5 zs k 0) (fld 5 zs k 1) (fld 5 zs k 2) (fld 5 zs k 3) (fld 5 zs k 4) a l u f t (alT_all hv k hk) hx W)
  have HR := Lib.hid h1
  have HY := Lib.hid (fun k h => cfL_yes (zs := zs) (a := a) (l := l) (u := u) (f := f) (t := t) (k := k) h)
  have HN := Lib.hid (fun k h => cfL_not (zs := zs) (a := a) (l := l) (u := u) (f := f) (t := t) (k := k) h)
  have HLe := Lib.hid (fun k => cfL_length zs a l u f t k)
  obtain ⟨i0, hi, hz0, hz1, hz2⟩ := info_parts infoI
  clear h1 hv hx
  go_enter Try.func59, Try.ntmps59
  go_wp2_with fail
  generalize w.alloc (.cells #[.int .i64 a, .int .i64 l, .int .i64 u, .int .i64 f, .int .i64 t] 26) = W0 at *
  go_loopw [5, 10] (fun q i wr => ∃ k : Nat, k ≤ n ∧ i = .int .i64 k ∧ wr.ownsRow W0.heap.size 3 1 q (cfL zs a l u f t k).length (cellsI (cfL zs a l u f t k)) ∧ Below W0.heap.size W0 wr) (fun _ i _ => n - (intOf i).toNat)
  case atStart => exact ⟨0, Nat.zero_le _, rfl, World.ownsRow_nil .., Below.refl _ _⟩
  case round =>
    obtain ⟨k, hk, rfl, hO, hb⟩ := hrel
    by_cases hlt : k < n
    · obtain ⟨b1, o1, rfl, l1, p0, p1, p2, p3, p4⟩ := cellsE (HR.out.below (S0.out.1.trans (hb.mono S0.out.1.size)) (Nat.le_refl _)) hlt
      have hlt2 : (k : Int) < (n : Int) := by omega
      have D := Lib.hid (fun W => HD.out k hlt W)
      have hlen := HLe.out k
      have HYk := Lib.hid (show cfB (fld 5 zs k 0) (fld 5 zs k 1) (fld 5 zs k 2) (fld 5 zs k 3) (fld 5 zs k 4) a l u f t = true → _ from HY.out k)
      have HNk := Lib.hid (show cfB (fld 5 zs k 0) (fld 5 zs k 1) (fld 5 zs k 2) (fld 5 zs k 3) (fld 5 zs k 4) a l u f t = false → _ from HN.out k)
      have SW := Lib.hid (S0.out.old hb)
      have SA := Lib.hid (newS 26 #[.int .i64 (fld 5 zs k 0), .int .i64 (fld 5 zs k 1), .int .i64 (fld 5 zs k 2), .int .i64 (fld 5 zs k 3), .int .i64 (fld 5 zs k 4)] wr)
      have SB := Lib.hid (SW.out.alloc (.cells #[.int .i64 (fld 5 zs k 0), .int .i64 (fld 5 zs k 1), .int .i64 (fld 5 zs k 2), .int .i64 (fld 5 zs k 3), .int .i64 (fld 5 zs k 4)] 26))
      have HO := Lib.hid (hO.alloc (.cells #[.int .i64 (fld 5 zs k 0), .int .i64 (fld 5 zs k 1), .int .i64 (fld 5 zs k 2), .int .i64 (fld 5 zs k 3), .int .i64 (fld 5 zs k 4)] 26))
      have HB := Lib.hid (hb.alloc hb.size (.cells #[.int .i64 (fld 5 zs k 0), .int .i64 (fld 5 zs k 1), .int .i64 (fld 5 zs k 2), .int .i64 (fld 5 zs k 3), .int .i64 (fld 5 zs k 4)] 26))
      clear hO hb HD HY HN HLe HR
      generalize cfB (fld 5 zs k 0) (fld 5 zs k 1) (fld 5 zs k 2) (fld 5 zs k 3) (fld 5 zs k 4) a l u f t = pb at *
      generalize cfL zs a l u f t k = L at *
      generalize fld 5 zs k 0 = u0 at *
      generalize fld 5 zs k 1 = u1 at *
      generalize fld 5 zs k 2 = u2 at *
      generalize fld 5 zs k 3 = u3 at *
      generalize fld 5 zs k 4 = u4 at *
      go_upto_region 5 with fail
      clear p0 p1 p2 p3 p4
      generalize wr.alloc (.cells #[.int .i64 u0, .int .i64 u1, .int .i64 u2, .int .i64 u3, .int .i64 u4] 26) = WA at *
      have c0 : WA.cell? ⟨w.heap.size, 0, none⟩ = some (.int .i64 a) := SB.out.cell 0
      have c1 : WA.cell? ⟨w.heap.size, 1, none⟩ = some (.int .i64 l) := SB.out.cell 1
      have c2 : WA.cell? ⟨w.heap.size, 2, none⟩ = some (.int .i64 u) := SB.out.cell 2
      have c3 : WA.cell? ⟨w.heap.size, 3, none⟩ = some (.int .i64 f) := SB.out.cell 3
      have c4 : WA.cell? ⟨w.heap.size, 4, none⟩ = some (.int .i64 t) := SB.out.cell 4
      have d0 : WA.cell? ⟨wr.heap.size, 0, none⟩ = some (.int .i64 u0) := SA.out.cell 0
      have d1 : WA.cell? ⟨wr.heap.size, 1, none⟩ = some (.int .i64 u1) := SA.out.cell 1
      have d2 : WA.cell? ⟨wr.heap.size, 2, none⟩ = some (.int .i64 u2) := SA.out.cell 2
      have d3 : WA.cell? ⟨wr.heap.size, 3, none⟩ = some (.int .i64 u3) := SA.out.cell 3
      have d4 : WA.cell? ⟨wr.heap.size, 4, none⟩ = some (.int .i64 u4) := SA.out.cell 4
      go_wp2_with fail
      refine (D.out _).mono ?_
      rintro e w2 ⟨rfl, hb2⟩
      have O2 := Lib.hid (own_.own_below HO.out hb2)
      have B2 := Lib.hid (HB.out.trans (hb2.mono HB.out.size))
      have S2 := Lib.hid (SA.out.old hb2)
      have hsz := B2.out.size
      clear hb2 c0 c1 c2 c3 c4 d0 d1 d2 d3 d4 HO HB SB SA SW D
      cases pb
      · have HE := Lib.hid (HNk.out rfl)
        clear HYk HNk
        go_wp2_with fail
        go_roundw
        case rel => exact ⟨k + 1, by omega, by go_num, by rw [HE.out]; exact O2.out, B2.out⟩
        case measure => simp [intOf]; omega
      · have HE := Lib.hid (HYk.out rfl)
        clear HYk HNk
        have d0 : w2.cell? ⟨wr.heap.size, 0, none⟩ = some (.int .i64 u0) := S2.out.cell 0
        go_wp2_with (at_builtin; (refine wpList_append_own _ rfl (.tmp 17) (.tmp 20) 32 rfl W0.heap.size 3 i0 (.int .i64 0) 1 8 Try.underlying32 hi hz0 hz1 hz2 rfl (by decide) _ L.length (cellsI L) rfl (O2.out.alloc _) ⟨w2.heap.size, 0, none⟩ 1 1 [.int .i64 u0] rfl rfl (cell_one_new _ _ _) (own_.one_cell _ rfl) (by unfold maxLen; omega) (by omega) (by simp; omega) ?_; intro v' w3 hown' hgrow hnil))
        have HB' := Lib.hid (own_.below_append B2.out O2.out hsz hgrow)
        have HO' := Lib.hid (own_app hown')
        clear hown' hgrow hnil d0
        go_roundw
        case rel => exact ⟨k + 1, by omega, by go_num, by rw [HE.out]; exact HO'.out, HB'.out⟩
        case measure => simp [intOf]; omega
    · obtain rfl : k = n := by omega
      have HO := Lib.hid hO
      have HB := Lib.hid hb
      clear hO hb HR HD HY HN
      go_wp2_with fail
      go_ret
      exact ⟨_, rfl, own_.own_base HO.out S0.out.1.size, S0.out.1.trans (HB.out.mono S0.out.1.size)⟩
end Go.Proofs.Ytglonedhoenkpaa.lvlb
