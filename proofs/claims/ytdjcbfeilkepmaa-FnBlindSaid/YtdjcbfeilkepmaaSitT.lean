/- spec's l10Arrivals, l10Sent, l10Cover: lists built by append in regions that draw; ArrivalsOf, SendTimes, CoverOf. -/
import Derived.Test.YtdjcbfeilkepmaaSitS
import Derived.Test.YtdjcbfeilkepmaaSitE
import Derived.Test.YtdjcbfeilkepmaaIntC
import Derived.Deep.RegionHeld3
import Derived.Deep.CutRange
namespace Go.Proofs.Ytdjcbfeilkepmaa.sitt
open Go.RowKit Go.Proofs.Ytdjcbfeilkepmaa.ints Go.Proofs.Ytdjcbfeilkepmaa.lst Go.Proofs.Ytdjcbfeilkepmaa.sit Go.Proofs.Ytdjcbfeilkepmaa.in_ Go.Proofs.Ytdjcbfeilkepmaa.ats Go.Proofs.Ytdjcbfeilkepmaa.sits

theorem own_new (w : World) (o : Obj) (e : TypeId) : ((w.alloc o).alloc (.cells #[] e)).ownsRow (w.alloc o).heap.size e 1 (.slice (some ⟨w.heap.size + 1, 0, none⟩) 0 0) 0 [] := by
  have := own_.own_empty (w.alloc o) e
  rw [World.size_alloc] at this ⊢
  exact this
theorem below_new (w : World) (o o' : Obj) : Below (w.alloc o).heap.size (w.alloc o) ((w.alloc o).alloc o') := (Below.refl _ _).alloc (Nat.le_refl _) _
theorem own_app {w : World} {B e k : Nat} {v : Value} {L : List Int} {x : Int} (h : w.ownsRow B e 1 v (k + 1) (cellsI L ++ [.int .i64 x])) : w.ownsRow B e 1 v (k + 1) (cellsI (L ++ [x])) := by
  unfold cellsI at h ⊢
  rw [List.map_append]
  exact h

set_option maxRecDepth 100000 in
set_option maxHeartbeats 2000000 in
theorem arrivals10 (zs : List Int) (x y : Int) (t : Int) (A : Option Addr) (n c : Nat) (w : World) (hn : n ≤ 1048576) (hok : okL zs n) (hp : okP x y) (ht : -1000000 ≤ t) (ht2 : t ≤ 1000000) (h1 : RdZ 2 w w.heap.size A n zs) :
    Calls Try.prog 54 #[.slice A n c, .agg #[.int .i64 x, .int .i64 y], .int .i64 t] w fun e w' => ∃ v, e = .returned v ∧ w'.ownsRow w.heap.size 3 1 v n (cellsI (avT zs x y t n)) ∧ Below w.heap.size w w' := by
  have S0 := Lib.hid (newS 33 #[.int .i64 x, .int .i64 y] w)
  have O0 := Lib.hid (own_new w (.cells #[.int .i64 x, .int .i64 y] 33) 3)
  have E0 := Lib.hid (below_new w (.cells #[.int .i64 x, .int .i64 y] 33) (.cells #[] 3))
  have HD := Lib.hid (fun k (hk : k < n) w => (show Calls Try.prog 114 #[.agg #[.int .i64 (fld 2 zs k 0), .int .i64 (fld 2 zs k 1)], .agg #[.int .i64 x, .int .i64 y]] w fun e w' => e = .returned (.int .i64 (ds zs x y k)) ∧ Below w.heap.size w w' from distance10 (fld 2 zs k 0) (fld 2 zs k 1) x y (hok k hk) hp w))
  have HR := Lib.hid (fun k (hk : k < n) => ds_ok hok hk hp)
  have HS := Lib.hid (fun k => avT_succ zs x y t k)
  obtain ⟨i0, hi, hz0, hz1, hz2⟩ := info_parts infoI
  clear hok hp
  go_enter Try.func54, Try.ntmps54
  go_wp2_with fail
  generalize w.alloc (.cells #[.int .i64 x, .int .i64 y] 33) = W0 at *
  go_loopw [7, 8] (fun v i wr => ∃ k : Nat, k ≤ n ∧ i = .int .i64 k ∧ wr.ownsRow W0.heap.size 3 1 v k (cellsI (avT zs x y t k)) ∧ Below W0.heap.size W0 wr) (fun _ i _ => n - (intOf i).toNat)
  case atStart => exact ⟨0, Nat.zero_le _, rfl, O0.out, E0.out⟩
  case round =>
    obtain ⟨k, hk, rfl, hown, hb⟩ := hrel
    clear O0 E0
    by_cases hlt : k < n
    · obtain ⟨b1, o1, rfl, l1, p0, p1⟩ := cells2 h1 hlt
      have hlt2 : (k : Int) < (n : Int) := by omega
      have D := Lib.hid (fun w => HD.out k hlt w)
      obtain ⟨d0, d1⟩ := HR.out k hlt
      have HSk := Lib.hid (HS.out k)
      have CS := Lib.hid (show ∀ WZ : World, Below W0.heap.size W0 WZ → (WZ.cell? ⟨b1, o1 + k * 2, none⟩ = some (.int .i64 (fld 2 zs k 0)) ∧ WZ.cell? ⟨b1, o1 + k * 2 + 1, none⟩ = some (.int .i64 (fld 2 zs k 1)) ∧ WZ.cell? ⟨w.heap.size, 0, none⟩ = some (.int .i64 x) ∧ WZ.cell? ⟨w.heap.size, 1, none⟩ = some (.int .i64 y)) from fun WZ hz =>
        have hw := S0.out.1.trans (hz.mono S0.out.1.size)
        And.intro ((hw.cell (p := ⟨b1, o1 + k * 2, none⟩) l1).trans p0) (And.intro ((hw.cell (p := ⟨b1, o1 + k * 2 + 1, none⟩) l1).trans p1) (And.intro (site.at_cell (S0.out.old hz) 0 (.int .i64 x) rfl) (site.at_cell (S0.out.old hz) 1 (.int .i64 y) rfl))))
      have e1 : IntKind.i64.wrap (t + ds zs x y k) = t + ds zs x y k := IntWalk.i64_in _ (by omega)
      have HB := Lib.hid hb
      have HO := Lib.hid hown
      have HL := Lib.hid (show (avT zs x y t k).length = k by have := hown.1; unfold cellsI at this; simpa using this)
      clear hb hown p0 p1 h1 HD HR HS
      generalize ds zs x y k = d at *
      generalize fld 2 zs k 0 = u at *
      generalize fld 2 zs k 1 = v at *
      generalize avT zs x y t k = L at *
      go_upto_region 5 with fail
      have OD := Lib.hid (show wr.drew.ownsRow W0.heap.size 3 1 u7 k (cellsI L) from HO.out)
      go_region_held3 (fun w' => w'.cell? ⟨b1, o1 + k * 2, none⟩ = some (.int .i64 u) ∧ w'.cell? ⟨b1, o1 + k * 2 + 1, none⟩ = some (.int .i64 v) ∧ w'.cell? ⟨w.heap.size, 0, none⟩ = some (.int .i64 x) ∧ w'.cell? ⟨w.heap.size, 1, none⟩ = some (.int .i64 y)) (first
        | exact CS.out _ HB.out.drew
        | exact CS.out _ (by assumption)
        | exact CS.out _ (Below.alloc (by assumption) (Below.size (by assumption)) _)
        | go_keep) (first
        | (go_at_call 114; (with_reducible refine (D.out _).mono ?_); rintro e w' ⟨rfl, hb⟩
           have hbl : Below W0.heap.size W0 w' := HB.out.drew.trans (hb.mono HB.out.size)
           have hoD := own_.own_below OD.out hb
           clear hb)
        | (refine step_append_sz rfl (.tmp 16) (.tmp 25) 28 rfl W0.heap.size 3 i0 (.int .i64 0) 1 8 Try.underlying28 hi hz0 hz1 hz2 rfl (by decide) _ k (cellsI L) rfl (hoD.alloc _) _ 1 1 [.int .i64 (t + d)] rfl rfl (cell_one_new _ _ _) (own_.one_cell _ rfl) (by unfold maxLen; omega) (by omega) (Nat.le_trans hbl.size (by rw [World.size_alloc]; omega)) ?_
           intro v1 w1 oA gA nA
           have hbA := own_.below_append hbl hoD hbl.size gA))
      all_goals (
        have HOA := Lib.hid (own_app oA)
        have HBA := Lib.hid hbA
        clear oA gA nA hbA hbl hoD
        go_wp2_with fail
        go_roundw
        case rel => exact ⟨k + 1, by omega, by go_num, by rw [HSk.out]; exact HOA.out, HBA.out⟩
        case measure => simp [intOf]; omega)
    · obtain rfl : k = n := by omega
      have HO := Lib.hid hown
      have HB := Lib.hid hb
      clear h1 hown hb
      go_wp2_with fail
      go_ret
      exact ⟨_, rfl, own_.own_base HO.out S0.out.1.size, S0.out.1.trans (HB.out.mono S0.out.1.size)⟩

set_option maxRecDepth 100000 in
set_option maxHeartbeats 2000000 in
theorem sent10 (zs : List Int) (x y : Int) (xs : List Int) (C : Option Addr) (m q : Nat) (A : Option Addr) (n c : Nat) (w : World) (hn : n ≤ 1048576) (hok : okL zs n) (hp : okP x y) (hm : n ≤ m) (hx : ∀ k, k < n → -1000000 ≤ xs.getD k 0 ∧ xs.getD k 0 ≤ 1000000) (h2 : RdI w w.heap.size C m xs) (h1 : RdZ 2 w w.heap.size A n zs) :
    Calls Try.prog 76 #[.slice A n c, .agg #[.int .i64 x, .int .i64 y], .slice C m q] w fun e w' => ∃ v, e = .returned v ∧ w'.ownsRow w.heap.size 3 1 v n (cellsI (stT zs xs x y n)) ∧ Below w.heap.size w w' := by
  have S0 := Lib.hid (newS 33 #[.int .i64 x, .int .i64 y] w)
  have O0 := Lib.hid (own_new w (.cells #[.int .i64 x, .int .i64 y] 33) 3)
  have E0 := Lib.hid (below_new w (.cells #[.int .i64 x, .int .i64 y] 33) (.cells #[] 3))
  have HD := Lib.hid (fun k (hk : k < n) w => (show Calls Try.prog 114 #[.agg #[.int .i64 (fld 2 zs k 0), .int .i64 (fld 2 zs k 1)], .agg #[.int .i64 x, .int .i64 y]] w fun e w' => e = .returned (.int .i64 (ds zs x y k)) ∧ Below w.heap.size w w' from distance10 (fld 2 zs k 0) (fld 2 zs k 1) x y (hok k hk) hp w))
  have HR := Lib.hid (fun k (hk : k < n) => ds_ok hok hk hp)
  have HS := Lib.hid (fun k => stT_succ zs xs x y k)
  obtain ⟨i0, hi, hz0, hz1, hz2⟩ := info_parts infoI
  clear hok hp
  go_enter Try.func76, Try.ntmps76
  go_wp2_with fail
  generalize w.alloc (.cells #[.int .i64 x, .int .i64 y] 33) = W0 at *
  go_loopw [7, 8] (fun v i wr => ∃ k : Nat, k ≤ n ∧ i = .int .i64 k ∧ wr.ownsRow W0.heap.size 3 1 v k (cellsI (stT zs xs x y k)) ∧ Below W0.heap.size W0 wr) (fun _ i _ => n - (intOf i).toNat)
  case atStart => exact ⟨0, Nat.zero_le _, rfl, O0.out, E0.out⟩
  case round =>
    obtain ⟨k, hk, rfl, hown, hb⟩ := hrel
    clear O0 E0
    by_cases hlt : k < n
    · obtain ⟨b1, o1, rfl, l1, p0, p1⟩ := cells2 h1 hlt
      obtain ⟨b2, o2, s, rfl, l2, hxk, px⟩ := h2.at_ (show k < m by omega)
      have hkm : (k : Int) < (m : Int) := by omega
      have hsd : xs.getD k 0 = s := by rw [List.getD_eq_getElem?_getD, hxk]; rfl
      have hx1 := hx k hlt
      rw [hsd] at hx1
      obtain ⟨s0, s1⟩ := hx1
      have hlt2 : (k : Int) < (n : Int) := by omega
      have D := Lib.hid (fun w => HD.out k hlt w)
      obtain ⟨d0, d1⟩ := HR.out k hlt
      have HSk := Lib.hid (HS.out k)
      have CS := Lib.hid (show ∀ WZ : World, Below W0.heap.size W0 WZ → (WZ.cell? ⟨b1, o1 + k * 2, none⟩ = some (.int .i64 (fld 2 zs k 0)) ∧ WZ.cell? ⟨b1, o1 + k * 2 + 1, none⟩ = some (.int .i64 (fld 2 zs k 1)) ∧ WZ.cell? ⟨w.heap.size, 0, none⟩ = some (.int .i64 x) ∧ WZ.cell? ⟨w.heap.size, 1, none⟩ = some (.int .i64 y) ∧ WZ.cell? ⟨b2, o2 + k, none⟩ = some (.int .i64 s)) from fun WZ hz =>
        have hw := S0.out.1.trans (hz.mono S0.out.1.size)
        And.intro ((hw.cell (p := ⟨b1, o1 + k * 2, none⟩) l1).trans p0) (And.intro ((hw.cell (p := ⟨b1, o1 + k * 2 + 1, none⟩) l1).trans p1) (And.intro (site.at_cell (S0.out.old hz) 0 (.int .i64 x) rfl) (And.intro (site.at_cell (S0.out.old hz) 1 (.int .i64 y) rfl) ((hw.cell (p := ⟨b2, o2 + k, none⟩) l2).trans px)))))
      have e1 : IntKind.i64.wrap (s - ds zs x y k) = s - ds zs x y k := IntWalk.i64_in _ (by omega)
      rw [hsd] at HSk
      clear hsd hxk hx
      have HB := Lib.hid hb
      have HO := Lib.hid hown
      have HL := Lib.hid (show (stT zs xs x y k).length = k by have := hown.1; unfold cellsI at this; simpa using this)
      clear hb hown p0 p1 h1 HD HR HS px h2
      generalize ds zs x y k = d at *
      generalize fld 2 zs k 0 = u at *
      generalize fld 2 zs k 1 = v at *
      generalize stT zs xs x y k = L at *
      go_upto_region 5 with fail
      have OD := Lib.hid (show wr.drew.ownsRow W0.heap.size 3 1 u7 k (cellsI L) from HO.out)
      go_region_held3 (fun w' => w'.cell? ⟨b1, o1 + k * 2, none⟩ = some (.int .i64 u) ∧ w'.cell? ⟨b1, o1 + k * 2 + 1, none⟩ = some (.int .i64 v) ∧ w'.cell? ⟨w.heap.size, 0, none⟩ = some (.int .i64 x) ∧ w'.cell? ⟨w.heap.size, 1, none⟩ = some (.int .i64 y) ∧ w'.cell? ⟨b2, o2 + k, none⟩ = some (.int .i64 s)) (first
        | exact CS.out _ HB.out.drew
        | exact CS.out _ (by assumption)
        | exact CS.out _ (Below.alloc (by assumption) (Below.size (by assumption)) _)
        | go_keep) (first
        | (go_at_call 114; (with_reducible refine (D.out _).mono ?_); rintro e w' ⟨rfl, hb⟩
           have hbl : Below W0.heap.size W0 w' := HB.out.drew.trans (hb.mono HB.out.size)
           have hoD := own_.own_below OD.out hb
           clear hb)
        | (refine step_append_sz rfl (.tmp 16) (.tmp 28) 28 rfl W0.heap.size 3 i0 (.int .i64 0) 1 8 Try.underlying28 hi hz0 hz1 hz2 rfl (by decide) _ k (cellsI L) rfl (hoD.alloc _) _ 1 1 [.int .i64 (s - d)] rfl rfl (cell_one_new _ _ _) (own_.one_cell _ rfl) (by unfold maxLen; omega) (by omega) (Nat.le_trans hbl.size (by rw [World.size_alloc]; omega)) ?_
           intro v1 w1 oA gA nA
           have hbA := own_.below_append hbl hoD hbl.size gA))
      all_goals (
        have HOA := Lib.hid (own_app oA)
        have HBA := Lib.hid hbA
        clear oA gA nA hbA hbl hoD
        go_wp2_with fail
        go_roundw
        case rel => exact ⟨k + 1, by omega, by go_num, by rw [HSk.out]; exact HOA.out, HBA.out⟩
        case measure => simp [intOf]; omega)
    · obtain rfl : k = n := by omega
      have HO := Lib.hid hown
      have HB := Lib.hid hb
      clear h1 hown hb h2
      go_wp2_with fail
      go_ret
      exact ⟨_, rfl, own_.own_base HO.out S0.out.1.size, S0.out.1.trans (HB.out.mono S0.out.1.size)⟩

end Go.Proofs.Ytdjcbfeilkepmaa.sitt
