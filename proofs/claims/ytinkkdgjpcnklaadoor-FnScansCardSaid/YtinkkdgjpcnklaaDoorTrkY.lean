/- ConfirmedTracks of impl and spec. -/
import Derived.Test.YtinkkdgjpcnklaaDoorTrkV
import Derived.Test.YtinkkdgjpcnklaaDoorTrkS
import Derived.Test.YtinkkdgjpcnklaaDoorRws
namespace Go.Proofs.YtinkkdgjpcnklaaDoor.trky
open Go.RowKit Go.Proofs.YtinkkdgjpcnklaaDoor.ints Go.Proofs.YtinkkdgjpcnklaaDoor.lst Go.Proofs.YtinkkdgjpcnklaaDoor.in_ Go.Proofs.YtinkkdgjpcnklaaDoor.ats Go.Proofs.YtinkkdgjpcnklaaDoor.pos Go.Proofs.YtinkkdgjpcnklaaDoor.trk Go.Proofs.YtinkkdgjpcnklaaDoor.trkm Go.Proofs.YtinkkdgjpcnklaaDoor.trke Go.Proofs.YtinkkdgjpcnklaaDoor.intc Go.Proofs.YtinkkdgjpcnklaaDoor.rws

theorem cf_yes {zs : List Int} {k : Nat} (h : fld 6 zs k 1 ≠ 1) : cfT zs (k + 1) = cfT zs k ++ [fld 6 zs k 0] := by rw [cfT, if_neg h]
theorem cf_no {zs : List Int} {k : Nat} (h : fld 6 zs k 1 = 1) : cfT zs (k + 1) = cfT zs k := by rw [cfT, if_pos h]
theorem cfV_no {zs : List Int} {n : Nat} (h : tvB zs n = false) : cfV zs n = [] := by unfold cfV; rw [h]; rfl
theorem cfV_yes {zs : List Int} {n : Nat} (h : tvB zs n = true) : cfV zs n = cfT zs n := by unfold cfV; rw [h]; rfl

set_option maxRecDepth 100000 in
set_option maxHeartbeats 2000000 in
theorem confirmedI (zs : List Int) (A : Option Addr) (n c : Nat) (w : World) (hn : n ≤ 1048577) (h1 : RdZ 6 w w.heap.size A n zs) :
    Calls Tryd.prog 14 #[.slice A n c] w fun e w' => ∃ v, e = .returned (.tuple #[v, .bool (tvB zs n)]) ∧ w'.ownsRow w.heap.size 3 1 v (cfV zs n).length (cellsI (cfV zs n)) ∧ Below w.heap.size w w' := by
  obtain ⟨iI, hiI, hzI0, hzI1, hzI2⟩ := info_parts infoI
  have HV := Lib.hid (fun (W : World) (hb : Below w.heap.size w W) => trkv.isValidTracks zs A n c W hn (h1.next hb))
  have HR := Lib.hid h1
  have OE := Lib.hid (own_emptyZ w 3 1)
  have BE := Lib.hid ((Below.refl w.heap.size w).alloc (Nat.le_refl _) (.cells #[] 3))
  clear h1
  cases hq : tvB zs n
  · have HE := Lib.hid (cfV_no hq)
    rw [hq] at HV
    clear hq
    go_enter Tryd.func14, Tryd.ntmps14
    go_wp2_with fail
    refine (HV.out _ (Below.refl _ _)).mono ?_
    rintro e w1 ⟨rfl, hb⟩
    skip
    have B1 := Lib.hid hb
    clear hb
    go_wp2_with fail
    go_ret2
    exact ⟨_, rfl, by rw [HE.out]; exact World.ownsRow_nil .., B1.out⟩
  have HE := Lib.hid (cfV_yes hq)
  rw [hq] at HV
  clear hq
  go_enter Tryd.func14, Tryd.ntmps14
  go_wp2_with fail
  refine (HV.out _ (Below.refl _ _)).mono ?_
  rintro e w1 ⟨rfl, hb⟩
  skip
  have B1 := Lib.hid hb
  clear hb OE BE HV
  go_wp2_with fail
  go_loopw [4, 12] (fun v i wr => ∃ k : Nat, k ≤ n ∧ i = .int .i64 k ∧ wr.ownsRow w.heap.size 3 1 v (cfT zs k).length (cellsI (cfT zs k)) ∧ Below w.heap.size w wr) (fun _ i _ => n - (intOf i).toNat)
  case atStart => exact ⟨0, Nat.zero_le _, rfl, World.ownsRow_nil .., B1.out⟩
  case round =>
    obtain ⟨k, hk, rfl, hO, hb⟩ := hrel
    by_cases hlt : k < n
    · obtain ⟨b1, o1, rfl, l1, p0, p1, p2, p3, p4, p5⟩ := cellsE (HR.out.next hb) hlt
      have hlt2 : (k : Int) < (n : Int) := by omega
      obtain ⟨A5, c5, rfl⟩ := own_sliceZ hO
      have HLEN := Lib.hid (cfT_length zs k)
      have CY := Lib.hid (fun h => cf_yes (zs := zs) (k := k) h)
      have CN := Lib.hid (fun h => cf_no (zs := zs) (k := k) h)
      have O5 := Lib.hid ((hO.alloc (.cells #[.int .i64 (fld 6 zs k 0), .int .i64 (fld 6 zs k 1), .int .i64 (fld 6 zs k 2), .int .i64 (fld 6 zs k 3), .int .i64 (fld 6 zs k 4), .int .i64 (fld 6 zs k 5)] 38)).alloc (.cells #[.int .i64 (fld 6 zs k 0)] 3))
      have HBB := Lib.hid ((hb.alloc hb.size (.cells #[.int .i64 (fld 6 zs k 0), .int .i64 (fld 6 zs k 1), .int .i64 (fld 6 zs k 2), .int .i64 (fld 6 zs k 3), .int .i64 (fld 6 zs k 4), .int .i64 (fld 6 zs k 5)] 38)).alloc (by rw [World.size_alloc]; have := hb.size; omega) (.cells #[.int .i64 (fld 6 zs k 0)] 3))
      have HOk := Lib.hid hO
      have HBk := Lib.hid (hb.alloc hb.size (.cells #[.int .i64 (fld 6 zs k 0), .int .i64 (fld 6 zs k 1), .int .i64 (fld 6 zs k 2), .int .i64 (fld 6 zs k 3), .int .i64 (fld 6 zs k 4), .int .i64 (fld 6 zs k 5)] 38))
      have HO1 := Lib.hid (hO.alloc (.cells #[.int .i64 (fld 6 zs k 0), .int .i64 (fld 6 zs k 1), .int .i64 (fld 6 zs k 2), .int .i64 (fld 6 zs k 3), .int .i64 (fld 6 zs k 4), .int .i64 (fld 6 zs k 5)] 38))
      have hwz := hb.size
      clear hO hb
      generalize fld 6 zs k 0 = u0 at *
      generalize fld 6 zs k 1 = u1 at *
      generalize fld 6 zs k 2 = u2 at *
      generalize fld 6 zs k 3 = u3 at *
      generalize fld 6 zs k 4 = u4 at *
      generalize fld 6 zs k 5 = u5 at *
      generalize cfT zs k = L at *
      by_cases h1 : u1 = 1
      · have g1 : (u1 != 1) = false := by rw [h1]; rfl
        have HC := Lib.hid (CN.out h1)
        clear h1 CY CN O5 HBB HOk
        go_wp2_with fail
        go_roundw
        case rel => exact ⟨k + 1, by omega, by go_num, by rw [HC.out]; exact HO1.out, HBk.out⟩
        case measure => simp [intOf]; omega
      · have g1 : (u1 != 1) = true := bne_iff_ne.mpr h1
        have HC := Lib.hid (CY.out h1)
        have hlen := HLEN.out
        clear h1 CY CN HO1 HBk HOk
        go_wp2_with (at_builtin; refine wpList_append_any rfl (.tmp 19) (.tmp 22) 25 rfl w.heap.size 3 iI (.int .i64 0) 1 8 Tryd.underlying25 hiI hzI0 hzI1 hzI2 rfl (by decide) _ L.length (cellsI L) rfl O5.out ⟨wr.heap.size + 1, 0, none⟩ 1 1 [.int .i64 u0] rfl rfl (by have := cell_one_new (wr.alloc (.cells #[.int .i64 u0, .int .i64 u1, .int .i64 u2, .int .i64 u3, .int .i64 u4, .int .i64 u5] 38)) (.int .i64 u0) 3; rw [World.size_alloc] at this; exact this) (own_.one_cell _ rfl) (by unfold maxLen; omega) (by omega) (by rw [World.size_alloc, World.size_alloc]; omega) ?_; intro v6 w6 o6 g6 n6; obtain ⟨A6, c6, rfl⟩ := own_sliceZ o6)
        have O6 := Lib.hid (show w6.ownsRow w.heap.size 3 1 (.slice A6 (L.length + 1) c6) (cfT zs (k + 1)).length (cellsI (cfT zs (k + 1))) by rw [HC.out]; exact own_growI o6)
        have B6 := Lib.hid (HBB.out.grown g6 HBB.out.size (own_.row_ge O5.out))
        clear o6 g6 n6 O5 HBB p0 p1 p2 p3 p4 p5
        go_wp2_with fail
        go_roundw
        case rel => exact ⟨k + 1, by omega, by go_num, O6.out, B6.out⟩
        case measure => simp [intOf]; omega
    · obtain rfl : k = n := by omega
      obtain ⟨A5, c5, rfl⟩ := own_sliceZ hO
      have O6 := Lib.hid hO
      have B6 := Lib.hid hb
      clear hO hb
      go_wp2_with fail
      go_ret2
      exact ⟨_, rfl, by rw [HE.out]; exact O6.out, B6.out⟩

set_option maxRecDepth 100000 in
set_option maxHeartbeats 2000000 in
theorem confirmedS (zs : List Int) (A : Option Addr) (n c : Nat) (w : World) (hn : n ≤ 1048577) (h1 : RdZ 6 w w.heap.size A n zs) :
    Calls Tryd.prog 15 #[.slice A n c] w fun e w' => ∃ v, e = .returned (.tuple #[v, .bool (tvB zs n)]) ∧ w'.ownsRow w.heap.size 3 1 v (cfV zs n).length (cellsI (cfV zs n)) ∧ Below w.heap.size w w' := by
  obtain ⟨iI, hiI, hzI0, hzI1, hzI2⟩ := info_parts infoI
  have HV := Lib.hid (fun (W : World) (hb : Below w.heap.size w W) => trks.list14 zs A n c W hn (h1.next hb))
  have HR := Lib.hid h1
  have OE := Lib.hid (own_emptyZ w 3 1)
  have BE := Lib.hid ((Below.refl w.heap.size w).alloc (Nat.le_refl _) (.cells #[] 3))
  clear h1
  cases hq : tvB zs n
  · have HE := Lib.hid (cfV_no hq)
    rw [hq] at HV
    clear hq
    go_enter Tryd.func15, Tryd.ntmps15
    go_wp2_with fail
    refine (HV.out _ BE.out).mono ?_
    rintro e w1 ⟨rfl, hb⟩
    have O1 := Lib.hid (own_.own_below OE.out hb)
    have B1 := Lib.hid (BE.out.trans (hb.mono BE.out.size))
    clear hb
    go_wp2_with fail
    go_ret2
    exact ⟨_, rfl, by rw [HE.out]; exact O1.out, B1.out⟩
  have HE := Lib.hid (cfV_yes hq)
  rw [hq] at HV
  clear hq
  go_enter Tryd.func15, Tryd.ntmps15
  go_wp2_with fail
  refine (HV.out _ BE.out).mono ?_
  rintro e w1 ⟨rfl, hb⟩
  have O1 := Lib.hid (own_.own_below OE.out hb)
  have B1 := Lib.hid (BE.out.trans (hb.mono BE.out.size))
  clear hb OE BE HV
  go_wp2_with fail
  go_loopw [4, 5] (fun v i wr => ∃ k : Nat, k ≤ n ∧ i = .int .i64 k ∧ wr.ownsRow w.heap.size 3 1 v (cfT zs k).length (cellsI (cfT zs k)) ∧ Below w.heap.size w wr) (fun _ i _ => n - (intOf i).toNat)
  case atStart => exact ⟨0, Nat.zero_le _, rfl, O1.out, B1.out⟩
  case round =>
    obtain ⟨k, hk, rfl, hO, hb⟩ := hrel
    by_cases hlt : k < n
    · obtain ⟨b1, o1, rfl, l1, p0, p1, p2, p3, p4, p5⟩ := cellsE (HR.out.next hb) hlt
      have hlt2 : (k : Int) < (n : Int) := by omega
      obtain ⟨A5, c5, rfl⟩ := own_sliceZ hO
      have HLEN := Lib.hid (cfT_length zs k)
      have CY := Lib.hid (fun h => cf_yes (zs := zs) (k := k) h)
      have CN := Lib.hid (fun h => cf_no (zs := zs) (k := k) h)
      have O5 := Lib.hid (hO.alloc (.cells #[.int .i64 (fld 6 zs k 0)] 3))
      have HBB := Lib.hid (hb.alloc hb.size (.cells #[.int .i64 (fld 6 zs k 0)] 3))
      have HOk := Lib.hid hO
      have HBk := Lib.hid hb
      have HO1 := Lib.hid hO
      have hwz := hb.size
      clear hO hb
      generalize fld 6 zs k 0 = u0 at *
      generalize fld 6 zs k 1 = u1 at *
      generalize fld 6 zs k 2 = u2 at *
      generalize fld 6 zs k 3 = u3 at *
      generalize fld 6 zs k 4 = u4 at *
      generalize fld 6 zs k 5 = u5 at *
      generalize cfT zs k = L at *
      by_cases h1 : u1 = 1
      · have g1 : (u1 != 1) = false := by rw [h1]; rfl
        have HC := Lib.hid (CN.out h1)
        clear h1 CY CN O5 HBB HOk
        go_wp2_with fail
        go_roundw
        case rel => exact ⟨k + 1, by omega, by go_num, by rw [HC.out]; exact HO1.out, HBk.out⟩
        case measure => simp [intOf]; omega
      · have g1 : (u1 != 1) = true := bne_iff_ne.mpr h1
        have HC := Lib.hid (CY.out h1)
        have hlen := HLEN.out
        clear h1 CY CN HO1 HBk HOk
        go_wp2_with (at_builtin; refine wpList_append_any rfl (.tmp 23) (.tmp 29) 25 rfl w.heap.size 3 iI (.int .i64 0) 1 8 Tryd.underlying25 hiI hzI0 hzI1 hzI2 rfl (by decide) _ L.length (cellsI L) rfl O5.out ⟨wr.heap.size, 0, none⟩ 1 1 [.int .i64 u0] rfl rfl (cell_one_new _ _ _) (own_.one_cell _ rfl) (by unfold maxLen; omega) (by omega) (by rw [World.size_alloc]; omega) ?_; intro v6 w6 o6 g6 n6; obtain ⟨A6, c6, rfl⟩ := own_sliceZ o6)
        have O6 := Lib.hid (show w6.ownsRow w.heap.size 3 1 (.slice A6 (L.length + 1) c6) (cfT zs (k + 1)).length (cellsI (cfT zs (k + 1))) by rw [HC.out]; exact own_growI o6)
        have B6 := Lib.hid (HBB.out.grown g6 HBB.out.size (own_.row_ge O5.out))
        clear o6 g6 n6 O5 HBB p0 p1 p2 p3 p4 p5
        go_wp2_with fail
        go_roundw
        case rel => exact ⟨k + 1, by omega, by go_num, O6.out, B6.out⟩
        case measure => simp [intOf]; omega
    · obtain rfl : k = n := by omega
      obtain ⟨A5, c5, rfl⟩ := own_sliceZ hO
      have O6 := Lib.hid hO
      have B6 := Lib.hid hb
      clear hO hb
      go_wp2_with fail
      go_ret2
      exact ⟨_, rfl, by rw [HE.out]; exact O6.out, B6.out⟩
end Go.Proofs.YtinkkdgjpcnklaaDoor.trky
