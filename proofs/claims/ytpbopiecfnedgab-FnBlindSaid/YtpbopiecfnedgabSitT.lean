/- spec's l10Arrivals, l10Sent, l10Cover: lists built by append in regions that draw; ArrivalsOf, SendTimes, CoverOf. -/
import Derived.Test.YtpbopiecfnedgabSitS
import Derived.Test.YtpbopiecfnedgabSitE
import Derived.Test.YtpbopiecfnedgabIntC
import Derived.Deep.RegionHeld3
import Derived.Deep.CutRange
namespace Go.Proofs.Ytpbopiecfnedgab.sitt
open Go.RowKit Go.Proofs.Ytpbopiecfnedgab.ints Go.Proofs.Ytpbopiecfnedgab.lst Go.Proofs.Ytpbopiecfnedgab.sit Go.Proofs.Ytpbopiecfnedgab.in_ Go.Proofs.Ytpbopiecfnedgab.ats Go.Proofs.Ytpbopiecfnedgab.sits

theorem own_new (w : World) (o : Obj) (e : TypeId) : ((w.alloc o).alloc (.cells #[] e)).ownsRow (w.alloc o).heap.size e 1 (.slice (some ⟨w.heap.size + 1, 0, none⟩) 0 0) 0 [] := by
  have := own_.own_empty (w.alloc o) e
  rw [World.size_alloc] at this ⊢
  exact this
theorem below_new (w : World) (o o' : Obj) : Below (w.alloc o).heap.size (w.alloc o) ((w.alloc o).alloc o') := (Below.refl _ _).alloc (Nat.le_refl _) _
theorem own_app {w : World} {B e k : Nat} {v : Value} {L : List Int} {x : Int} (h : w.ownsRow B e 1 v (k + 1) (cellsI L ++ [.int .i64 x])) : w.ownsRow B e 1 v (k + 1) (cellsI (L ++ [x])) := by
  unfold cellsI at h ⊢
  rw [List.map_append]
  exact h

set_option maxRecDepth 100000 in
set_option maxHeartbeats 2000000 in
theorem arrivals10 (zs : List Int) (x y : Int) (t : Int) (A : Option Addr) (n c : Nat) (w : World) (hn : n ≤ 1048576) (hok : okL zs n) (hp : okP x y) (ht : -1000000 ≤ t) (ht2 : t ≤ 1000000) (h1 : RdZ 2 w w.heap.size A n zs) :
    Calls Try.prog 77 #[.slice A n c, .agg #[.int .i64 x, .int .i64 y], .int .i64 t] w fun e w' => ∃ v, e = .returned v ∧ w'.ownsRow w.heap.size 3 1 v n (cellsI (avT zs x y t n)) ∧ Below w.heap.size w w' := by
  have S0 := Lib.hid (newS 32 #[.int .i64 x, .int .i64 y] w)
  have O0 := Lib.hid (own_new w (.cells #[.int .i64 x, .int .i64 y] 32) 3)
  have E0 := Lib.hid (below_new w (.cells #[.int .i64 x, .int .i64 y] 32) (.cells #[] 3))
  have HD := Lib.hid (fun k (hk : k < n) w => (show Calls Try.prog 100 #[.agg #[.int .i64 (fld 2 zs k 0), .int .i64 (fld 2 zs k 1)], .agg #[.int .i64 x, .int .i64 y]] w fun e w' => e = .returned (.int .i64 (ds zs x y k)) ∧ Below w.heap.size w w' from distance10 (fld 2 zs k 0) (fld 2 zs k 1) x y (hok k hk) hp w))
  have HR := Lib.hid (fun k (hk : k < n) => ds_ok hok hk hp)
  have HS := Lib.hid (fun k => avT_succ zs x y t k)
  obtain ⟨i0, hi, hz0, hz1, hz2⟩ := info_parts infoI
  clear hok hp
  go_enter Try.func77, Try.ntmps77
  go_wp2_with fail
  generalize w.alloc (.cells #[.int .i64 x, .int .i64 y] 32) = W0 at *
  go_loopw [7, 8] (fun v i wr => ∃ k : Nat, k ≤ n ∧ i = .int .i64 k ∧ wr.ownsRow W0.heap.size 3 1 v k (cellsI (avT zs x y t k)) ∧ Below W0.heap.size W0 wr) (fun _ i _ => n - (intOf i).toNat)
  case atStart => exact ⟨0, Nat.zero_le _, rfl, O0.out, E0.out⟩
  case round =>
    obtain ⟨k, hk, rfl, hown, hb⟩ := hrel
    clear O0 E0
    by_cases hlt : k < n
    · obtain ⟨b1, o1, rfl, l1, p0, p1⟩ := cells2 h1 hlt
      have hlt2 : (k : Int) < (n : Int) := by omega
      have D := Lib.hid (fun w => HD.out k hlt w)
      obtain ⟨d0, d1⟩ := HR.out k hlt
      have HSk := Lib.hid (HS.out k)
      have CS := Lib.hid (show ∀ WZ : World, Below W0.heap.size W0 WZ → (WZ.cell? ⟨b1, o1 + k * 2, none⟩ = some (.int .i64 (fld 2 zs k 0)) ∧ WZ.cell? ⟨b1, o1 + k * 2 + 1, none⟩ = some (.int .i64 (fld 2 zs k 1)) ∧ WZ.cell? ⟨w.heap.size, 0, none⟩ = some (.int .i64 x) ∧ WZ.cell? ⟨w.heap.size, 1, none⟩ = some (.int .i64 y)) from fun WZ hz =>
        have hw := S0.out.1.trans (hz.mono S0.out.1.size)
        And.intro ((hw.cell (p := ⟨b1, o1 + k * 2, none⟩) l1).trans p0) (And.intro ((hw.cell (p := ⟨b1, o1 + k * 2 + 1, none⟩) l1).trans p1) (And.intro (site.at_cell (S0.out.old hz) 0 (.int .i64 x) rfl) (site.at_cell (S0.out.old hz) 1 (.int .i64 y) rfl))))
      have e1 : IntKind.i64.wrap (t + ds zs x y k) = t + ds zs x y k := IntWalk.i64_in _ (by omega)
      have HB := Lib.hid hb
      have HO := Lib.hid hown
      have HL := Lib.hid (show (avT zs x y t k).length = k by have := hown.1; unfold cellsI at this; simpa using this)
      clear hb hown p0 p1 h1 HD HR HS
      generalize ds zs x y k = d at *
      generalize fld 2 zs k 0 = u at *
      generalize fld 2 zs k 1 = v at *
      generalize avT zs x y t k = L at *
      go_upto_region 5 with fail
      have OD := Lib.hid (show wr.drew.ownsRow W0.heap.size 3 1 u7 k (cellsI L) from HO.out)
      go_region_held3 (fun w' => w'.cell? ⟨b1, o1 + k * 2, none⟩ = some (.int .i64 u) ∧ w'.cell? ⟨b1, o1 + k * 2 + 1, none⟩ = some (.int .i64 v) ∧ w'.cell? ⟨w.heap.size, 0, none⟩ = some (.int .i64 x) ∧ w'.cell? ⟨w.heap.size, 1, none⟩ = some (.int .i64 y)) (first
        | exact CS.out _ HB.out.drew
        | exact CS.out _ (by assumption)
        | exact CS.out _ (Below.alloc (by assumption) (Below.size (by assumption)) _)
        | go_keep) (first
        | (go_at_call 100; (with_reducible refine (D.out _).mono ?_); rintro e w' ⟨rfl, hb⟩
           have hbl : Below W0.heap.size W0 w' := HB.out.drew.trans (hb.mono HB.out.size)
           have hoD := own_.own_below OD.out hb
           clear hb)
        | (refine step_append_sz rfl (.tmp 16) (.tmp 25) 23 rfl W0.heap.size 3 i0 (.int .i64 0) 1 8 Try.underlying23 hi hz0 hz1 hz2 rfl (by decide) _ k (cellsI L) rfl (hoD.alloc _) _ 1 1 [.int .i64 (t + d)] rfl rfl (cell_one_new _ _ _) (own_.one_cell _ rfl) (by unfold maxLen; omega) (by omega) (Nat.le_trans hbl.size (by rw [World.size_alloc]; omega)) ?_
           intro v1 w1 oA gA nA
           have hbA := own_.below_append hbl hoD hbl.size gA))
      all_goals (
        have HOA := Lib.hid (own_app oA)
        have HBA := Lib.hid hbA
        clear oA gA nA hbA hbl hoD
        go_wp2_with fail
        go_roundw
        case rel => exact ⟨k + 1, by omega, by go_num, by rw [HSk.out]; exact HOA.out, HBA.out⟩
        case measure => simp [intOf]; omega)
    · obtain rfl : k = n := by omega
      have HO := Lib.hid hown
      have HB := Lib.hid hb
      clear h1 hown hb
      go_wp2_with fail
      go_ret
      exact ⟨_, rfl, own_.own_base HO.out S0.out.1.size, S0.out.1.trans (HB.out.mono S0.out.1.size)⟩

set_option maxRecDepth 100000 in
set_option maxHeartbeats 2000000 in
theorem sent10 (zs : List Int) (x y : Int) (xs : List Int) (C : Option Addr) (m q : Nat) (A : Option Addr) (n c : Nat) (w : World) (hn : n ≤ 1048576) (hok : okL zs n) (hp : okP x y) (hm : n ≤ m) (hx : ∀ k, k < n → -1000000 ≤ xs.getD k 0 ∧ xs.getD k 0 ≤ 1000000) (h2 : RdI w w.heap.size C m xs) (h1 : RdZ 2 w w.heap.size A n zs) :
    Calls Try.prog 83 #[.slice A n c, .agg #[.int .i64 x, .int .i64 y], .slice C m q] w fun e w' => ∃ v, e = .returned v ∧ w'.ownsRow w.heap.size 3 1 v n (cellsI (stT zs xs x y n)) ∧ Below w.heap.size w w' := by
  have S0 := Lib.hid (newS 32 #[.int .i64 x, .int .i64 y] w)
  have O0 := Lib.hid (own_new w (.cells #[.int .i64 x, .int .i64 y] 32) 3)
  have E0 := Lib.hid (below_new w (.cells #[.int .i64 x, .int .i64 y] 32) (.cells #[] 3))
  have HD := Lib.hid (fun k (hk : k < n) w => (show Calls Try.prog 100 #[.agg #[.int .i64 (fld 2 zs k 0), .int .i64 (fld 2 zs k 1)], .agg #[.int .i64 x, .int .i64 y]] w fun e w' => e = .returned (.int .i64 (ds zs x y k)) ∧ Below w.heap.size w w' from distance10 (fld 2 zs k 0) (fld 2 zs k 1) x y (hok k hk) hp w))
  have HR := Lib.hid (fun k (hk : k < n) => ds_ok hok hk hp)
  have HS := Lib.hid (fun k => stT_succ zs xs x y k)
  obtain ⟨i0, hi, hz0, hz1, hz2⟩ := info_parts infoI
  clear hok hp
  go_enter Try.func83, Try.ntmps83
  go_wp2_with fail
  generalize w.alloc (.cells #[.int .i64 x, .int .i64 y] 32) = W0 at *
  go_loopw [7, 8] (fun v i wr => ∃ k : Nat, k ≤ n ∧ i = .int .i64 k ∧ wr.ownsRow W0.heap.size 3 1 v k (cellsI (stT zs xs x y k)) ∧ Below W0.heap.size W0 wr) (fun _ i _ => n - (intOf i).toNat)
  case atStart => exact ⟨0, Nat.zero_le _, rfl, O0.out, E0.out⟩
  case round =>
    obtain ⟨k, hk, rfl, hown, hb⟩ := hrel
    clear O0 E0
    by_cases hlt : k < n
    · obtain ⟨b1, o1, rfl, l1, p0, p1⟩ := cells2 h1 hlt
      obtain ⟨b2, o2, s, rfl, l2, hxk, px⟩ := h2.at_ (show k < m by omega)
      have hkm : (k : Int) < (m : Int) := by omega
      have hsd : xs.getD k 0 = s := by rw [List.getD_eq_getElem?_getD, hxk]; rfl
      have hx1 := hx k hlt
      rw [hsd] at hx1
      obtain ⟨s0, s1⟩ := hx1
      have hlt2 : (k : Int) < (n : Int) := by omega
      have D := Lib.hid (fun w => HD.out k hlt w)
      obtain ⟨d0, d1⟩ := HR.out k hlt
      have HSk := Lib.hid (HS.out k)
      have CS := Lib.hid (show ∀ WZ : World, Below W0.heap.size W0 WZ → (WZ.cell? ⟨b1, o1 + k * 2, none⟩ = some (.int .i64 (fld 2 zs k 0)) ∧ WZ.cell? ⟨b1, o1 + k * 2 + 1, none⟩ = some (.int .i64 (fld 2 zs k 1)) ∧ WZ.cell? ⟨w.heap.size, 0, none⟩ = some (.int .i64 x) ∧ WZ.cell? ⟨w.heap.size, 1, none⟩ = some (.int .i64 y) ∧ WZ.cell? ⟨b2, o2 + k, none⟩ = some (.int .i64 s)) from fun WZ hz =>
        have hw := S0.out.1.trans (hz.mono S0.out.1.size)
        And.intro ((hw.cell (p := ⟨b1, o1 + k * 2, none⟩) l1).trans p0) (And.intro ((hw.cell (p := ⟨b1, o1 + k * 2 + 1, none⟩) l1).trans p1) (And.intro (site.at_cell (S0.out.old hz) 0 (.int .i64 x) rfl) (And.intro (site.at_cell (S0.out.old hz) 1 (.int .i64 y) rfl) ((hw.cell (p := ⟨b2, o2 + k, none⟩) l2).trans px)))))
      have e1 : IntKind.i64.wrap (s - ds zs x y k) = s - ds zs x y k := IntWalk.i64_in _ (by omega)
      rw [hsd] at HSk
      clear hsd hxk hx
      have HB := Lib.hid hb
      have HO := Lib.hid hown
      have HL := Lib.hid (show (stT zs xs x y k).length = k by have := hown.1; unfold cellsI at this; simpa using this)
      clear hb hown p0 p1 h1 HD HR HS px h2
      generalize ds zs x y k = d at *
      generalize fld 2 zs k 0 = u at *
      generalize fld 2 zs k 1 = v at *
      generalize stT zs xs x y k = L at *
      go_upto_region 5 with fail
      have OD := Lib.hid (show wr.drew.ownsRow W0.heap.size 3 1 u7 k (cellsI L) from HO.out)
      go_region_held3 (fun w' => w'.cell? ⟨b1, o1 + k * 2, none⟩ = some (.int .i64 u) ∧ w'.cell? ⟨b1, o1 + k * 2 + 1, none⟩ = some (.int .i64 v) ∧ w'.cell? ⟨w.heap.size, 0, none⟩ = some (.int .i64 x) ∧ w'.cell? ⟨w.heap.size, 1, none⟩ = some (.int .i64 y) ∧ w'.cell? ⟨b2, o2 + k, none⟩ = some (.int .i64 s)) (first
        | exact CS.out _ HB.out.drew
        | exact CS.out _ (by assumption)
        | exact CS.out _ (Below.alloc (by assumption) (Below.size (by assumption)) _)
        | go_keep) (first
        | (go_at_call 100; (with_reducible refine (D.out _).mono ?_); rintro e w' ⟨rfl, hb⟩
           have hbl : Below W0.heap.size W0 w' := HB.out.drew.trans (hb.mono HB.out.size)
           have hoD := own_.own_below OD.out hb
           clear hb)
        | (refine step_append_sz rfl (.tmp 16) (.tmp 28) 23 rfl W0.heap.size 3 i0 (.int .i64 0) 1 8 Try.underlying23 hi hz0 hz1 hz2 rfl (by decide) _ k (cellsI L) rfl (hoD.alloc _) _ 1 1 [.int .i64 (s - d)] rfl rfl (cell_one_new _ _ _) (own_.one_cell _ rfl) (by unfold maxLen; omega) (by omega) (Nat.le_trans hbl.size (by rw [World.size_alloc]; omega)) ?_
           intro v1 w1 oA gA nA
           have hbA := own_.below_append hbl hoD hbl.size gA))
      all_goals (
        have HOA := Lib.hid (own_app oA)
        have HBA := Lib.hid hbA
        clear oA gA nA hbA hbl hoD
        go_wp2_with fail
        go_roundw
        case rel => exact ⟨k + 1, by omega, by go_num, by rw [HSk.out]; exact HOA.out, HBA.out⟩
        case measure => simp [intOf]; omega)
    · obtain rfl : k = n := by omega
      have HO := Lib.hid hown
      have HB := Lib.hid hb
      clear h1 hown hb h2
      go_wp2_with fail
      go_ret
      exact ⟨_, rfl, own_.own_base HO.out S0.out.1.size, S0.out.1.trans (HB.out.mono S0.out.1.size)⟩

set_option maxRecDepth 100000 in
theorem arrivalsOf (zs : List Int) (x y t : Int) (A : Option Addr) (n c : Nat) (w : World) (hn : n ≤ 1048576) (h1 : RdZ 2 w w.heap.size A n zs) :
    Calls Try.prog 43 #[.slice A n c, .agg #[.int .i64 x, .int .i64 y], .int .i64 t] w fun e w' => ∃ v, e = .returned (.tuple #[v, .bool (avB zs n x y t)]) ∧ w'.ownsRow w.heap.size 3 1 v (avV zs n x y t).length (cellsI (avV zs n x y t)) ∧ Below w.heap.size w w' := by
  have S0 := Lib.hid (newS 32 #[.int .i64 x, .int .i64 y] w)
  have T0 := Lib.hid (fun (W : World) (hb : Below w.heap.size w W) => good10 zs A n c W (by omega) (h1.next hb))
  have T1 := Lib.hid (fun W => point10 x y W)
  have T2 := Lib.hid (fun W => l1In t 0 100000 W)
  have CO := Lib.hid (fun (h : siB zs n = true) (hp : onB x y = true) (ht : isIn t 0 100000 = true) (W : World) (hb : Below w.heap.size w W) => (show Calls Try.prog 77 #[.slice A n c, .agg #[.int .i64 x, .int .i64 y], .int .i64 t] W fun e w' => ∃ v, e = .returned v ∧ w'.ownsRow W.heap.size 3 1 v (avT zs x y t n).length (cellsI (avT zs x y t n)) ∧ Below W.heap.size W w' from by rw [avT_length]; exact arrivals10 zs x y t A n c W hn (okL_on (siB_yes h).2.2.1) (okP_on hp) (by have := of_decide_eq_true ht; omega) (by have := of_decide_eq_true ht; omega) (h1.next hb)))
  have HR := Lib.hid h1
  clear h1
  cases hq0 : siB zs n
  · rw [hq0] at T0
    have HE := Lib.hid (show avB zs n x y t = false by unfold avB; rw [hq0]; rfl)
    have HV := Lib.hid (avV_no HE.out)
    clear CO HR hq0
    go_enter Try.func43, Try.ntmps43
    go_wp2_with fail
    generalize w.alloc (.cells #[.int .i64 x, .int .i64 y] 32) = W0 at *
    have AN0 := Lib.hid (Below.refl W0.heap.size W0)
    refine (T0.out W0 (S0.out.1.trans (AN0.out.mono S0.out.1.size))).mono ?_
    rintro e V0 ⟨rfl, hb0⟩
    have AN1 := Lib.hid (AN0.out.trans (hb0.mono AN0.out.size))
    clear hb0 AN0
    have OX := Lib.hid (own_.own_empty V0 3)
    have BX := Lib.hid ((S0.out.1.trans (AN1.out.mono S0.out.1.size)).alloc (Nat.le_trans S0.out.1.size AN1.out.size) (.cells #[] 3))
    have LX := Lib.hid (Nat.le_trans S0.out.1.size AN1.out.size)
    go_wp2_with fail
    go_ret2
    exact ⟨_, by rw [HE.out]; rfl, by rw [HV.out]; exact own_.own_base OX.out LX.out, BX.out⟩
  rw [hq0] at T0
  cases hq1 : onB x y
  · rw [hq1] at T1
    have HE := Lib.hid (show avB zs n x y t = false by unfold avB; rw [hq0, hq1]; rfl)
    have HV := Lib.hid (avV_no HE.out)
    clear CO HR hq0 hq1
    go_enter Try.func43, Try.ntmps43
    go_wp2_with fail
    generalize w.alloc (.cells #[.int .i64 x, .int .i64 y] 32) = W0 at *
    have AN0 := Lib.hid (Below.refl W0.heap.size W0)
    refine (T0.out W0 (S0.out.1.trans (AN0.out.mono S0.out.1.size))).mono ?_
    rintro e V0 ⟨rfl, hb0⟩
    have AN1 := Lib.hid (AN0.out.trans (hb0.mono AN0.out.size))
    clear hb0 AN0
    have c0_ : V0.cell? ⟨w.heap.size, 0, none⟩ = some (.int .i64 x) := (S0.out.old AN1.out).cell 0
    have c1_ : V0.cell? ⟨w.heap.size, 1, none⟩ = some (.int .i64 y) := (S0.out.old AN1.out).cell 1
    go_wp2_with fail
    clear c0_ c1_
    refine (T1.out V0).mono ?_
    rintro e V1 ⟨rfl, hb1⟩
    have AN2 := Lib.hid (AN1.out.trans (hb1.mono AN1.out.size))
    clear hb1 AN1
    have OX := Lib.hid (own_.own_empty V1 3)
    have BX := Lib.hid ((S0.out.1.trans (AN2.out.mono S0.out.1.size)).alloc (Nat.le_trans S0.out.1.size AN2.out.size) (.cells #[] 3))
    have LX := Lib.hid (Nat.le_trans S0.out.1.size AN2.out.size)
    go_wp2_with fail
    go_ret2
    exact ⟨_, by rw [HE.out]; rfl, by rw [HV.out]; exact own_.own_base OX.out LX.out, BX.out⟩
  rw [hq1] at T1
  cases hq2 : isIn t 0 100000
  · rw [hq2] at T2
    have HE := Lib.hid (show avB zs n x y t = false by unfold avB; rw [hq0, hq1, hq2]; rfl)
    have HV := Lib.hid (avV_no HE.out)
    clear CO HR hq0 hq1 hq2
    go_enter Try.func43, Try.ntmps43
    go_wp2_with fail
    generalize w.alloc (.cells #[.int .i64 x, .int .i64 y] 32) = W0 at *
    have AN0 := Lib.hid (Below.refl W0.heap.size W0)
    refine (T0.out W0 (S0.out.1.trans (AN0.out.mono S0.out.1.size))).mono ?_
    rintro e V0 ⟨rfl, hb0⟩
    have AN1 := Lib.hid (AN0.out.trans (hb0.mono AN0.out.size))
    clear hb0 AN0
    have c0_ : V0.cell? ⟨w.heap.size, 0, none⟩ = some (.int .i64 x) := (S0.out.old AN1.out).cell 0
    have c1_ : V0.cell? ⟨w.heap.size, 1, none⟩ = some (.int .i64 y) := (S0.out.old AN1.out).cell 1
    go_wp2_with fail
    clear c0_ c1_
    refine (T1.out V0).mono ?_
    rintro e V1 ⟨rfl, hb1⟩
    have AN2 := Lib.hid (AN1.out.trans (hb1.mono AN1.out.size))
    clear hb1 AN1
    go_wp2_with fail
    refine (T2.out V1).mono ?_
    rintro e w' ⟨rfl, rfl⟩
    have OX := Lib.hid (own_.own_empty V1 3)
    have BX := Lib.hid ((S0.out.1.trans (AN2.out.mono S0.out.1.size)).alloc (Nat.le_trans S0.out.1.size AN2.out.size) (.cells #[] 3))
    have LX := Lib.hid (Nat.le_trans S0.out.1.size AN2.out.size)
    go_wp2_with fail
    go_ret2
    exact ⟨_, by rw [HE.out]; rfl, by rw [HV.out]; exact own_.own_base OX.out LX.out, BX.out⟩
  rw [hq2] at T2
  have HE := Lib.hid (show avB zs n x y t = true by unfold avB; rw [hq0, hq1, hq2]; rfl)
  have HV := Lib.hid (avV_yes HE.out)
  have CC := Lib.hid (fun W (hb : Below w.heap.size w W) => CO.out hq0 hq1 hq2 W hb)
  clear CO HR hq0 hq1 hq2
  go_enter Try.func43, Try.ntmps43
  go_wp2_with fail
  generalize w.alloc (.cells #[.int .i64 x, .int .i64 y] 32) = W0 at *
  have AN0 := Lib.hid (Below.refl W0.heap.size W0)
  refine (T0.out W0 (S0.out.1.trans (AN0.out.mono S0.out.1.size))).mono ?_
  rintro e V0 ⟨rfl, hb0⟩
  have AN1 := Lib.hid (AN0.out.trans (hb0.mono AN0.out.size))
  clear hb0 AN0
  have c0_ : V0.cell? ⟨w.heap.size, 0, none⟩ = some (.int .i64 x) := (S0.out.old AN1.out).cell 0
  have c1_ : V0.cell? ⟨w.heap.size, 1, none⟩ = some (.int .i64 y) := (S0.out.old AN1.out).cell 1
  go_wp2_with fail
  clear c0_ c1_
  refine (T1.out V0).mono ?_
  rintro e V1 ⟨rfl, hb1⟩
  have AN2 := Lib.hid (AN1.out.trans (hb1.mono AN1.out.size))
  clear hb1 AN1
  go_wp2_with fail
  refine (T2.out V1).mono ?_
  rintro e w' ⟨rfl, rfl⟩
  have c0_ : V1.cell? ⟨w.heap.size, 0, none⟩ = some (.int .i64 x) := (S0.out.old AN2.out).cell 0
  have c1_ : V1.cell? ⟨w.heap.size, 1, none⟩ = some (.int .i64 y) := (S0.out.old AN2.out).cell 1
  go_wp2_with fail
  clear c0_ c1_
  refine (CC.out V1 (S0.out.1.trans (AN2.out.mono S0.out.1.size))).mono ?_
  rintro e VX ⟨v, rfl, ho, hb⟩
  have OX := Lib.hid (own_.own_base ho (Nat.le_trans S0.out.1.size AN2.out.size))
  have BX := Lib.hid (S0.out.1.trans ((AN2.out.trans (hb.mono AN2.out.size)).mono S0.out.1.size))
  clear ho hb
  go_wp2_with fail
  go_ret2
  exact ⟨_, by rw [HE.out]; rfl, by rw [HV.out]; exact OX.out, BX.out⟩

set_option maxRecDepth 100000 in
theorem sendTimes (zs xs : List Int) (x y : Int) (A C : Option Addr) (n c m q : Nat) (w : World) (hn : n ≤ 1048576) (hm : m ≤ 1048576) (h1 : RdZ 2 w w.heap.size A n zs) (h2 : RdI w w.heap.size C m xs) :
    Calls Try.prog 54 #[.slice A n c, .agg #[.int .i64 x, .int .i64 y], .slice C m q] w fun e w' => ∃ v, e = .returned (.tuple #[v, .bool (stB zs n xs m x y)]) ∧ w'.ownsRow w.heap.size 3 1 v (stV zs n xs m x y).length (cellsI (stV zs n xs m x y)) ∧ Below w.heap.size w w' := by
  have S0 := Lib.hid (newS 32 #[.int .i64 x, .int .i64 y] w)
  have T0 := Lib.hid (fun (W : World) (hb : Below w.heap.size w W) => asked10 zs xs A C n c m q W (by omega) (by omega) (h1.next hb) (h2.next hb))
  have T1 := Lib.hid (fun W => point10 x y W)
  have CO := Lib.hid (fun (h : arB zs n xs m = true) (hp : onB x y = true) (W : World) (hb : Below w.heap.size w W) => (show Calls Try.prog 83 #[.slice A n c, .agg #[.int .i64 x, .int .i64 y], .slice C m q] W fun e w' => ∃ v, e = .returned v ∧ w'.ownsRow W.heap.size 3 1 v (stT zs xs x y n).length (cellsI (stT zs xs x y n)) ∧ Below W.heap.size W w' from by rw [stT_length]; exact sent10 zs x y xs C m q A n c W hn (okL_on (siB_yes (arB_yes h).2.1).2.2.1) (okP_on hp) (Nat.le_of_eq (arB_yes h).2.2.symm) (fun k hk => by have := aiT_at (arB_yes h).1 (show k < m by rw [(arB_yes h).2.2]; exact hk); omega) (h2.next hb) (h1.next hb)))
  have HR := Lib.hid h1
  clear h1
  cases hq0 : arB zs n xs m
  · rw [hq0] at T0
    have HE := Lib.hid (show stB zs n xs m x y = false by unfold stB; rw [hq0]; rfl)
    have HV := Lib.hid (stV_no HE.out)
    clear CO HR hq0
    go_enter Try.func54, Try.ntmps54
    go_wp2_with fail
    generalize w.alloc (.cells #[.int .i64 x, .int .i64 y] 32) = W0 at *
    have AN0 := Lib.hid (Below.refl W0.heap.size W0)
    refine (T0.out W0 (S0.out.1.trans (AN0.out.mono S0.out.1.size))).mono ?_
    rintro e V0 ⟨rfl, hb0⟩
    have AN1 := Lib.hid (AN0.out.trans (hb0.mono AN0.out.size))
    clear hb0 AN0
    have OX := Lib.hid (own_.own_empty V0 3)
    have BX := Lib.hid ((S0.out.1.trans (AN1.out.mono S0.out.1.size)).alloc (Nat.le_trans S0.out.1.size AN1.out.size) (.cells #[] 3))
    have LX := Lib.hid (Nat.le_trans S0.out.1.size AN1.out.size)
    go_wp2_with fail
    go_ret2
    exact ⟨_, by rw [HE.out]; rfl, by rw [HV.out]; exact own_.own_base OX.out LX.out, BX.out⟩
  rw [hq0] at T0
  cases hq1 : onB x y
  · rw [hq1] at T1
    have HE := Lib.hid (show stB zs n xs m x y = false by unfold stB; rw [hq0, hq1]; rfl)
    have HV := Lib.hid (stV_no HE.out)
    clear CO HR hq0 hq1
    go_enter Try.func54, Try.ntmps54
    go_wp2_with fail
    generalize w.alloc (.cells #[.int .i64 x, .int .i64 y] 32) = W0 at *
    have AN0 := Lib.hid (Below.refl W0.heap.size W0)
    refine (T0.out W0 (S0.out.1.trans (AN0.out.mono S0.out.1.size))).mono ?_
    rintro e V0 ⟨rfl, hb0⟩
    have AN1 := Lib.hid (AN0.out.trans (hb0.mono AN0.out.size))
    clear hb0 AN0
    have c0_ : V0.cell? ⟨w.heap.size, 0, none⟩ = some (.int .i64 x) := (S0.out.old AN1.out).cell 0
    have c1_ : V0.cell? ⟨w.heap.size, 1, none⟩ = some (.int .i64 y) := (S0.out.old AN1.out).cell 1
    go_wp2_with fail
    clear c0_ c1_
    refine (T1.out V0).mono ?_
    rintro e V1 ⟨rfl, hb1⟩
    have AN2 := Lib.hid (AN1.out.trans (hb1.mono AN1.out.size))
    clear hb1 AN1
    have OX := Lib.hid (own_.own_empty V1 3)
    have BX := Lib.hid ((S0.out.1.trans (AN2.out.mono S0.out.1.size)).alloc (Nat.le_trans S0.out.1.size AN2.out.size) (.cells #[] 3))
    have LX := Lib.hid (Nat.le_trans S0.out.1.size AN2.out.size)
    go_wp2_with fail
    go_ret2
    exact ⟨_, by rw [HE.out]; rfl, by rw [HV.out]; exact own_.own_base OX.out LX.out, BX.out⟩
  rw [hq1] at T1
  have HE := Lib.hid (show stB zs n xs m x y = true by unfold stB; rw [hq0, hq1]; rfl)
  have HV := Lib.hid (stV_yes HE.out)
  have CC := Lib.hid (fun W (hb : Below w.heap.size w W) => CO.out hq0 hq1 W hb)
  clear CO HR hq0 hq1
  go_enter Try.func54, Try.ntmps54
  go_wp2_with fail
  generalize w.alloc (.cells #[.int .i64 x, .int .i64 y] 32) = W0 at *
  have AN0 := Lib.hid (Below.refl W0.heap.size W0)
  refine (T0.out W0 (S0.out.1.trans (AN0.out.mono S0.out.1.size))).mono ?_
  rintro e V0 ⟨rfl, hb0⟩
  have AN1 := Lib.hid (AN0.out.trans (hb0.mono AN0.out.size))
  clear hb0 AN0
  have c0_ : V0.cell? ⟨w.heap.size, 0, none⟩ = some (.int .i64 x) := (S0.out.old AN1.out).cell 0
  have c1_ : V0.cell? ⟨w.heap.size, 1, none⟩ = some (.int .i64 y) := (S0.out.old AN1.out).cell 1
  go_wp2_with fail
  clear c0_ c1_
  refine (T1.out V0).mono ?_
  rintro e V1 ⟨rfl, hb1⟩
  have AN2 := Lib.hid (AN1.out.trans (hb1.mono AN1.out.size))
  clear hb1 AN1
  have c0_ : V1.cell? ⟨w.heap.size, 0, none⟩ = some (.int .i64 x) := (S0.out.old AN2.out).cell 0
  have c1_ : V1.cell? ⟨w.heap.size, 1, none⟩ = some (.int .i64 y) := (S0.out.old AN2.out).cell 1
  go_wp2_with fail
  clear c0_ c1_
  refine (CC.out V1 (S0.out.1.trans (AN2.out.mono S0.out.1.size))).mono ?_
  rintro e VX ⟨v, rfl, ho, hb⟩
  have OX := Lib.hid (own_.own_base ho (Nat.le_trans S0.out.1.size AN2.out.size))
  have BX := Lib.hid (S0.out.1.trans ((AN2.out.trans (hb.mono AN2.out.size)).mono S0.out.1.size))
  clear ho hb
  go_wp2_with fail
  go_ret2
  exact ⟨_, by rw [HE.out]; rfl, by rw [HV.out]; exact OX.out, BX.out⟩

end Go.Proofs.Ytpbopiecfnedgab.sitt
