/- spec's l14Find, l14Hit, l14Miss; l1Rising at 1..999. -/
import Derived.Test.YtfigjfckelichaaGreatDoorTrkS
import Derived.OwnWalk
namespace Go.Proofs.YtfigjfckelichaaGreatDoor.trkt
open Go.RowKit Go.Proofs.YtfigjfckelichaaGreatDoor.ints Go.Proofs.YtfigjfckelichaaGreatDoor.lst Go.Proofs.YtfigjfckelichaaGreatDoor.in_ Go.Proofs.YtfigjfckelichaaGreatDoor.ats Go.Proofs.YtfigjfckelichaaGreatDoor.pos Go.Proofs.YtfigjfckelichaaGreatDoor.trk Go.Proofs.YtfigjfckelichaaGreatDoor.trkm Go.Proofs.YtfigjfckelichaaGreatDoor.trke Go.Proofs.YtfigjfckelichaaGreatDoor.intc

/-- What l14Find returns. -/
def fdV (zs : List Int) (n : Nat) (d : Int) : Int := if idx (idL zs n) d n < n then ((idx (idL zs n) d n : Nat) : Int) else -1
theorem fd_at {zs : List Int} {n k : Nat} {d : Int} (hk : k < n) (h : fld 6 zs k 0 = d) (hn : ∀ j, j < k → fld 6 zs j 0 ≠ d) : fdV zs n d = (k : Int) := by
  have hi : idx (idL zs n) d n = k := idx_is hk (by rw [idL_getD hk]; exact h) (fun j hj => by rw [idL_getD (by omega)]; exact hn j hj)
  unfold fdV
  rw [hi, if_pos hk]
theorem fd_none {zs : List Int} {n : Nat} {d : Int} (hn : ∀ j, j < n → fld 6 zs j 0 ≠ d) : fdV zs n d = -1 := by
  have hi : idx (idL zs n) d n = n := idx_none (fun j hj => by rw [idL_getD hj]; exact hn j hj)
  unfold fdV
  rw [hi, if_neg (Nat.lt_irrefl _)]
theorem fd_yes {zs : List Int} {n : Nat} {d : Int} (h : hasId zs n d = true) : ∃ k, k < n ∧ fld 6 zs k 0 = d ∧ fdV zs n d = (k : Int) := by
  obtain ⟨k, hk, e, hn⟩ := hasId_yes h
  exact ⟨k, hk, e, fd_at hk e hn⟩
theorem fd_no {zs : List Int} {n : Nat} {d : Int} (h : hasId zs n d = false) : fdV zs n d = -1 := fd_none (hasId_no h)
set_option maxRecDepth 100000 in
set_option maxHeartbeats 1000000 in
theorem find14 (zs : List Int) (d : Int) (A : Option Addr) (n c : Nat) (w : World) (hn : n ≤ 1048577) (h1 : RdZ 6 w w.heap.size A n zs) :
    Calls Tryz.prog 47 #[.slice A n c, .int .i64 d] w fun e w' => e = .returned (.int .i64 (fdV zs n d)) ∧ w = w' := by
  have HR := Lib.hid h1
  have HA := Lib.hid (fun k (hk : k < n) h hn => fd_at (zs := zs) (n := n) (k := k) (d := d) hk h hn)
  have HN := Lib.hid (fun h => fd_none (zs := zs) (n := n) (d := d) h)
  clear h1
  go_enter Tryz.func47, Tryz.ntmps47
  go_wp2_with fail
  go_loop [5] (fun i => ∃ k : Nat, k ≤ n ∧ i = .int .i64 k ∧ ∀ j, j < k → fld 6 zs j 0 ≠ d) (fun i => n - (intOf i).toNat)
  case atStart => exact ⟨0, Nat.zero_le _, rfl, fun j hj => by omega⟩
  case round =>
    obtain ⟨k, hk, rfl, hno⟩ := hrel
    by_cases hlt : k < n
    · obtain ⟨b1, o1, rfl, l1, p0, -⟩ := cellsE HR.out hlt
      have hlt2 : (k : Int) < (n : Int) := by omega
      have HAk := Lib.hid (fun h => HA.out k hlt h hno)
      have HNO := Lib.hid hno
      clear HA hno
      by_cases hd : fld 6 zs k 0 = d
      · have g : (fld 6 zs k 0 == d) = true := beq_iff_eq.mpr hd
        have HE := Lib.hid (HAk.out hd)
        clear hd HAk HNO
        generalize fld 6 zs k 0 = u at *
        go_wp2_with fail
        go_ret
        exact ⟨by rw [HE.out]; rfl, rfl⟩
      · have g : (fld 6 zs k 0 == d) = false := beq_eq_false_iff_ne.mpr hd
        have HT := Lib.hid (show ∀ j, j < k + 1 → fld 6 zs j 0 ≠ d from fun j hj => by
          rcases Nat.lt_or_ge j k with h | h
          · exact HNO.out j h
          · obtain rfl : j = k := by omega
            exact hd)
        clear hd HAk HNO
        generalize fld 6 zs k 0 = u at *
        go_wp2_with fail
        go_round
        case rel => exact ⟨k + 1, by omega, by go_num, HT.out⟩
        case measure => simp [intOf]; omega
    · obtain rfl : k = n := by omega
      have HE := Lib.hid (HN.out hno)
      clear hno HA HN
      go_wp2_with fail
      go_ret
      exact ⟨by rw [HE.out]; rfl, rfl⟩

set_option maxRecDepth 100000 in
set_option maxHeartbeats 2000000 in
theorem hit14 (i s x y h l u v : Int) (w : World) (h0 : -1000000 ≤ h) (h1 : h ≤ 1000000) :
    Calls Tryz.prog 50 #[.agg #[.int .i64 i, .int .i64 s, .int .i64 x, .int .i64 y, .int .i64 h, .int .i64 l], .agg #[.int .i64 u, .int .i64 v]] w fun e w' => e = .returned (.agg #[.int .i64 i, .int .i64 (sw (h + 1) 0), .int .i64 u, .int .i64 v, .int .i64 (h + 1), .int .i64 0]) ∧ Below w.heap.size w w' := by
  by_cases hg : 3 ≤ h + 1
  · rw [show sw (h + 1) 0 = 2 by unfold sw; rw [if_pos hg, if_pos rfl]]
    have T0 := Lib.hid (((newS 25 #[.int .i64 i, .int .i64 s, .int .i64 x, .int .i64 y, .int .i64 h, .int .i64 l] w).alloc (.cells #[.int .i64 u, .int .i64 v] 35)).alloc (.cells #[.int .i64 0, .int .i64 0, .int .i64 0, .int .i64 0, .int .i64 0, .int .i64 0] 25))
    have P0 := Lib.hid (((newS 25 #[.int .i64 i, .int .i64 s, .int .i64 x, .int .i64 y, .int .i64 h, .int .i64 l] w).next 35 #[.int .i64 u, .int .i64 v]).alloc (.cells #[.int .i64 0, .int .i64 0, .int .i64 0, .int .i64 0, .int .i64 0, .int .i64 0] 25))
    rw [World.size_alloc] at P0
    have R0 := Lib.hid (((newS 25 #[.int .i64 i, .int .i64 s, .int .i64 x, .int .i64 y, .int .i64 h, .int .i64 l] w).alloc (.cells #[.int .i64 u, .int .i64 v] 35)).next 25 #[.int .i64 0, .int .i64 0, .int .i64 0, .int .i64 0, .int .i64 0, .int .i64 0])
    rw [World.size_alloc, World.size_alloc] at R0
    have e1 : IntKind.i64.wrap (h + 1) = h + 1 := IntWalk.i64_in _ (by omega)
    have gh : decide (3 ≤ h + 1) = true := decide_eq_true hg
    clear hg
    go_enter Tryz.func50, Tryz.ntmps50
    go_upto_region 1 with fail
    generalize ((w.alloc (.cells #[.int .i64 i, .int .i64 s, .int .i64 x, .int .i64 y, .int .i64 h, .int .i64 l] 25)).alloc (.cells #[.int .i64 u, .int .i64 v] 35)).alloc (.cells #[.int .i64 0, .int .i64 0, .int .i64 0, .int .i64 0, .int .i64 0, .int .i64 0] 25) = W0 at *
    have cT0 : W0.cell? ⟨w.heap.size, 0, none⟩ = some (.int .i64 i) := T0.out.cell 0
    have cTf0 := T0.out.frozen 0
    have cT1 : W0.cell? ⟨w.heap.size, 1, none⟩ = some (.int .i64 s) := T0.out.cell 1
    have cTf1 := T0.out.frozen 1
    have cT2 : W0.cell? ⟨w.heap.size, 2, none⟩ = some (.int .i64 x) := T0.out.cell 2
    have cTf2 := T0.out.frozen 2
    have cT3 : W0.cell? ⟨w.heap.size, 3, none⟩ = some (.int .i64 y) := T0.out.cell 3
    have cTf3 := T0.out.frozen 3
    have cT4 : W0.cell? ⟨w.heap.size, 4, none⟩ = some (.int .i64 h) := T0.out.cell 4
    have cTf4 := T0.out.frozen 4
    have cT5 : W0.cell? ⟨w.heap.size, 5, none⟩ = some (.int .i64 l) := T0.out.cell 5
    have cTf5 := T0.out.frozen 5
    have cP0 : W0.cell? ⟨w.heap.size + 1, 0, none⟩ = some (.int .i64 u) := P0.out.cell 0
    have cPf0 := P0.out.frozen 0
    have cP1 : W0.cell? ⟨w.heap.size + 1, 1, none⟩ = some (.int .i64 v) := P0.out.cell 1
    have cPf1 := P0.out.frozen 1
    go_upto_region 2 with fail
    clear cT0 cTf0 cT1 cTf1 cT2 cTf2 cT3 cTf3 cT4 cTf4 cT5 cTf5
    clear cP0 cPf0 cP1 cPf1
    have T1 := Lib.hid (show AtS 25 #[.int .i64 i, .int .i64 s, .int .i64 u, .int .i64 y, .int .i64 h, .int .i64 l] w (W0.setCell ⟨w.heap.size, 2, none⟩ (.int .i64 u)) (w.heap.size) from T0.out.set 2 (.int .i64 u))
    have P1 := Lib.hid (P0.out.other (b' := w.heap.size) (by omega) (by omega) 2 (.int .i64 u))
    have R1 := Lib.hid (R0.out.other (b' := w.heap.size) (by omega) (by omega) 2 (.int .i64 u))
    clear T0 P0 R0
    generalize W0.setCell ⟨w.heap.size, 2, none⟩ (.int .i64 u) = W1 at *
    have cT0 : W1.cell? ⟨w.heap.size, 0, none⟩ = some (.int .i64 i) := T1.out.cell 0
    have cTf0 := T1.out.frozen 0
    have cT1 : W1.cell? ⟨w.heap.size, 1, none⟩ = some (.int .i64 s) := T1.out.cell 1
    have cTf1 := T1.out.frozen 1
    have cT2 : W1.cell? ⟨w.heap.size, 2, none⟩ = some (.int .i64 u) := T1.out.cell 2
    have cTf2 := T1.out.frozen 2
    have cT3 : W1.cell? ⟨w.heap.size, 3, none⟩ = some (.int .i64 y) := T1.out.cell 3
    have cTf3 := T1.out.frozen 3
    have cT4 : W1.cell? ⟨w.heap.size, 4, none⟩ = some (.int .i64 h) := T1.out.cell 4
    have cTf4 := T1.out.frozen 4
    have cT5 : W1.cell? ⟨w.heap.size, 5, none⟩ = some (.int .i64 l) := T1.out.cell 5
    have cTf5 := T1.out.frozen 5
    have cP0 : W1.cell? ⟨w.heap.size + 1, 0, none⟩ = some (.int .i64 u) := P1.out.cell 0
    have cPf0 := P1.out.frozen 0
    have cP1 : W1.cell? ⟨w.heap.size + 1, 1, none⟩ = some (.int .i64 v) := P1.out.cell 1
    have cPf1 := P1.out.frozen 1
    go_upto_region 3 with fail
    clear cT0 cTf0 cT1 cTf1 cT2 cTf2 cT3 cTf3 cT4 cTf4 cT5 cTf5
    clear cP0 cPf0 cP1 cPf1
    have T2 := Lib.hid (show AtS 25 #[.int .i64 i, .int .i64 s, .int .i64 u, .int .i64 v, .int .i64 h, .int .i64 l] w (W1.setCell ⟨w.heap.size, 3, none⟩ (.int .i64 v)) (w.heap.size) from T1.out.set 3 (.int .i64 v))
    have P2 := Lib.hid (P1.out.other (b' := w.heap.size) (by omega) (by omega) 3 (.int .i64 v))
    have R2 := Lib.hid (R1.out.other (b' := w.heap.size) (by omega) (by omega) 3 (.int .i64 v))
    clear T1 P1 R1
    generalize W1.setCell ⟨w.heap.size, 3, none⟩ (.int .i64 v) = W2 at *
    have cT0 : W2.cell? ⟨w.heap.size, 0, none⟩ = some (.int .i64 i) := T2.out.cell 0
    have cTf0 := T2.out.frozen 0
    have cT1 : W2.cell? ⟨w.heap.size, 1, none⟩ = some (.int .i64 s) := T2.out.cell 1
    have cTf1 := T2.out.frozen 1
    have cT2 : W2.cell? ⟨w.heap.size, 2, none⟩ = some (.int .i64 u) := T2.out.cell 2
    have cTf2 := T2.out.frozen 2
    have cT3 : W2.cell? ⟨w.heap.size, 3, none⟩ = some (.int .i64 v) := T2.out.cell 3
    have cTf3 := T2.out.frozen 3
    have cT4 : W2.cell? ⟨w.heap.size, 4, none⟩ = some (.int .i64 h) := T2.out.cell 4
    have cTf4 := T2.out.frozen 4
    have cT5 : W2.cell? ⟨w.heap.size, 5, none⟩ = some (.int .i64 l) := T2.out.cell 5
    have cTf5 := T2.out.frozen 5
    go_upto_region 4 with fail
    clear cT0 cTf0 cT1 cTf1 cT2 cTf2 cT3 cTf3 cT4 cTf4 cT5 cTf5
    have T3 := Lib.hid (show AtS 25 #[.int .i64 i, .int .i64 s, .int .i64 u, .int .i64 v, .int .i64 h, .int .i64 0] w (W2.setCell ⟨w.heap.size, 5, none⟩ (.int .i64 0)) (w.heap.size) from T2.out.set 5 (.int .i64 0))
    have P3 := Lib.hid (P2.out.other (b' := w.heap.size) (by omega) (by omega) 5 (.int .i64 0))
    have R3 := Lib.hid (R2.out.other (b' := w.heap.size) (by omega) (by omega) 5 (.int .i64 0))
    clear T2 P2 R2
    generalize W2.setCell ⟨w.heap.size, 5, none⟩ (.int .i64 0) = W3 at *
    have cT0 : W3.cell? ⟨w.heap.size, 0, none⟩ = some (.int .i64 i) := T3.out.cell 0
    have cTf0 := T3.out.frozen 0
    have cT1 : W3.cell? ⟨w.heap.size, 1, none⟩ = some (.int .i64 s) := T3.out.cell 1
    have cTf1 := T3.out.frozen 1
    have cT2 : W3.cell? ⟨w.heap.size, 2, none⟩ = some (.int .i64 u) := T3.out.cell 2
    have cTf2 := T3.out.frozen 2
    have cT3 : W3.cell? ⟨w.heap.size, 3, none⟩ = some (.int .i64 v) := T3.out.cell 3
    have cTf3 := T3.out.frozen 3
    have cT4 : W3.cell? ⟨w.heap.size, 4, none⟩ = some (.int .i64 h) := T3.out.cell 4
    have cTf4 := T3.out.frozen 4
    have cT5 : W3.cell? ⟨w.heap.size, 5, none⟩ = some (.int .i64 0) := T3.out.cell 5
    have cTf5 := T3.out.frozen 5
    go_upto_region 5 with fail
    clear cT0 cTf0 cT1 cTf1 cT2 cTf2 cT3 cTf3 cT4 cTf4 cT5 cTf5
    have T4 := Lib.hid (show AtS 25 #[.int .i64 i, .int .i64 s, .int .i64 u, .int .i64 v, .int .i64 (h + 1), .int .i64 0] w (W3.setCell ⟨w.heap.size, 4, none⟩ (.int .i64 (h + 1))) (w.heap.size) from T3.out.set 4 (.int .i64 (h + 1)))
    have P4 := Lib.hid (P3.out.other (b' := w.heap.size) (by omega) (by omega) 4 (.int .i64 (h + 1)))
    have R4 := Lib.hid (R3.out.other (b' := w.heap.size) (by omega) (by omega) 4 (.int .i64 (h + 1)))
    clear T3 P3 R3
    generalize W3.setCell ⟨w.heap.size, 4, none⟩ (.int .i64 (h + 1)) = W4 at *
    have cT0 : W4.cell? ⟨w.heap.size, 0, none⟩ = some (.int .i64 i) := T4.out.cell 0
    have cTf0 := T4.out.frozen 0
    have cT1 : W4.cell? ⟨w.heap.size, 1, none⟩ = some (.int .i64 s) := T4.out.cell 1
    have cTf1 := T4.out.frozen 1
    have cT2 : W4.cell? ⟨w.heap.size, 2, none⟩ = some (.int .i64 u) := T4.out.cell 2
    have cTf2 := T4.out.frozen 2
    have cT3 : W4.cell? ⟨w.heap.size, 3, none⟩ = some (.int .i64 v) := T4.out.cell 3
    have cTf3 := T4.out.frozen 3
    have cT4 : W4.cell? ⟨w.heap.size, 4, none⟩ = some (.int .i64 (h + 1)) := T4.out.cell 4
    have cTf4 := T4.out.frozen 4
    have cT5 : W4.cell? ⟨w.heap.size, 5, none⟩ = some (.int .i64 0) := T4.out.cell 5
    have cTf5 := T4.out.frozen 5
    go_upto_region 6 with fail
    clear cT0 cTf0 cT1 cTf1 cT2 cTf2 cT3 cTf3 cT4 cTf4 cT5 cTf5
    have T5 := Lib.hid (show AtS 25 #[.int .i64 i, .int .i64 1, .int .i64 u, .int .i64 v, .int .i64 (h + 1), .int .i64 0] w (W4.setCell ⟨w.heap.size, 1, none⟩ (.int .i64 1)) (w.heap.size) from T4.out.set 1 (.int .i64 1))
    have P5 := Lib.hid (P4.out.other (b' := w.heap.size) (by omega) (by omega) 1 (.int .i64 1))
    have R5 := Lib.hid (R4.out.other (b' := w.heap.size) (by omega) (by omega) 1 (.int .i64 1))
    clear T4 P4 R4
    generalize W4.setCell ⟨w.heap.size, 1, none⟩ (.int .i64 1) = W5 at *
    have cT0 : W5.cell? ⟨w.heap.size, 0, none⟩ = some (.int .i64 i) := T5.out.cell 0
    have cTf0 := T5.out.frozen 0
    have cT1 : W5.cell? ⟨w.heap.size, 1, none⟩ = some (.int .i64 1) := T5.out.cell 1
    have cTf1 := T5.out.frozen 1
    have cT2 : W5.cell? ⟨w.heap.size, 2, none⟩ = some (.int .i64 u) := T5.out.cell 2
    have cTf2 := T5.out.frozen 2
    have cT3 : W5.cell? ⟨w.heap.size, 3, none⟩ = some (.int .i64 v) := T5.out.cell 3
    have cTf3 := T5.out.frozen 3
    have cT4 : W5.cell? ⟨w.heap.size, 4, none⟩ = some (.int .i64 (h + 1)) := T5.out.cell 4
    have cTf4 := T5.out.frozen 4
    have cT5 : W5.cell? ⟨w.heap.size, 5, none⟩ = some (.int .i64 0) := T5.out.cell 5
    have cTf5 := T5.out.frozen 5
    go_upto_region 7 with fail
    clear cT0 cTf0 cT1 cTf1 cT2 cTf2 cT3 cTf3 cT4 cTf4 cT5 cTf5
    have cT0 : W5.cell? ⟨w.heap.size, 0, none⟩ = some (.int .i64 i) := T5.out.cell 0
    have cTf0 := T5.out.frozen 0
    have cT1 : W5.cell? ⟨w.heap.size, 1, none⟩ = some (.int .i64 1) := T5.out.cell 1
    have cTf1 := T5.out.frozen 1
    have cT2 : W5.cell? ⟨w.heap.size, 2, none⟩ = some (.int .i64 u) := T5.out.cell 2
    have cTf2 := T5.out.frozen 2
    have cT3 : W5.cell? ⟨w.heap.size, 3, none⟩ = some (.int .i64 v) := T5.out.cell 3
    have cTf3 := T5.out.frozen 3
    have cT4 : W5.cell? ⟨w.heap.size, 4, none⟩ = some (.int .i64 (h + 1)) := T5.out.cell 4
    have cTf4 := T5.out.frozen 4
    have cT5 : W5.cell? ⟨w.heap.size, 5, none⟩ = some (.int .i64 0) := T5.out.cell 5
    have cTf5 := T5.out.frozen 5
    go_upto_region 8 with fail
    clear cT0 cTf0 cT1 cTf1 cT2 cTf2 cT3 cTf3 cT4 cTf4 cT5 cTf5
    have T6 := Lib.hid (show AtS 25 #[.int .i64 i, .int .i64 2, .int .i64 u, .int .i64 v, .int .i64 (h + 1), .int .i64 0] w (W5.setCell ⟨w.heap.size, 1, none⟩ (.int .i64 2)) (w.heap.size) from T5.out.set 1 (.int .i64 2))
    have P6 := Lib.hid (P5.out.other (b' := w.heap.size) (by omega) (by omega) 1 (.int .i64 2))
    have R6 := Lib.hid (R5.out.other (b' := w.heap.size) (by omega) (by omega) 1 (.int .i64 2))
    clear T5 P5 R5
    generalize W5.setCell ⟨w.heap.size, 1, none⟩ (.int .i64 2) = W6 at *
    have cT0 : W6.cell? ⟨w.heap.size, 0, none⟩ = some (.int .i64 i) := T6.out.cell 0
    have cTf0 := T6.out.frozen 0
    have cT1 : W6.cell? ⟨w.heap.size, 1, none⟩ = some (.int .i64 2) := T6.out.cell 1
    have cTf1 := T6.out.frozen 1
    have cT2 : W6.cell? ⟨w.heap.size, 2, none⟩ = some (.int .i64 u) := T6.out.cell 2
    have cTf2 := T6.out.frozen 2
    have cT3 : W6.cell? ⟨w.heap.size, 3, none⟩ = some (.int .i64 v) := T6.out.cell 3
    have cTf3 := T6.out.frozen 3
    have cT4 : W6.cell? ⟨w.heap.size, 4, none⟩ = some (.int .i64 (h + 1)) := T6.out.cell 4
    have cTf4 := T6.out.frozen 4
    have cT5 : W6.cell? ⟨w.heap.size, 5, none⟩ = some (.int .i64 0) := T6.out.cell 5
    have cTf5 := T6.out.frozen 5
    have cR0 : W6.cell? ⟨w.heap.size + 1 + 1, 0, none⟩ = some (.int .i64 0) := R6.out.cell 0
    have cRf0 := R6.out.frozen 0
    have cR1 : W6.cell? ⟨w.heap.size + 1 + 1, 1, none⟩ = some (.int .i64 0) := R6.out.cell 1
    have cRf1 := R6.out.frozen 1
    have cR2 : W6.cell? ⟨w.heap.size + 1 + 1, 2, none⟩ = some (.int .i64 0) := R6.out.cell 2
    have cRf2 := R6.out.frozen 2
    have cR3 : W6.cell? ⟨w.heap.size + 1 + 1, 3, none⟩ = some (.int .i64 0) := R6.out.cell 3
    have cRf3 := R6.out.frozen 3
    have cR4 : W6.cell? ⟨w.heap.size + 1 + 1, 4, none⟩ = some (.int .i64 0) := R6.out.cell 4
    have cRf4 := R6.out.frozen 4
    have cR5 : W6.cell? ⟨w.heap.size + 1 + 1, 5, none⟩ = some (.int .i64 0) := R6.out.cell 5
    have cRf5 := R6.out.frozen 5
    have HE := Lib.hid ((((((R6.out.set 0 (.int .i64 i)).set 1 (.int .i64 2)).set 2 (.int .i64 u)).set 3 (.int .i64 v)).set 4 (.int .i64 (h + 1))).set 5 (.int .i64 0))
    go_wp2_with fail
    have hl := HE.out.load Tryz.underlying25 rfl (by kernel_rfl)
    refine bodyPost_ret (v := .agg #[.int .i64 i, .int .i64 2, .int .i64 u, .int .i64 v, .int .i64 (h + 1), .int .i64 0]) ?_ rfl ⟨rfl, HE.out.1⟩
    rw [results_cell1 rfl]
    simp [asAddr, Result.andThen, hl]
  · rw [show sw (h + 1) 0 = 1 by unfold sw; rw [if_neg hg, if_pos rfl]]
    have T0 := Lib.hid (((newS 25 #[.int .i64 i, .int .i64 s, .int .i64 x, .int .i64 y, .int .i64 h, .int .i64 l] w).alloc (.cells #[.int .i64 u, .int .i64 v] 35)).alloc (.cells #[.int .i64 0, .int .i64 0, .int .i64 0, .int .i64 0, .int .i64 0, .int .i64 0] 25))
    have P0 := Lib.hid (((newS 25 #[.int .i64 i, .int .i64 s, .int .i64 x, .int .i64 y, .int .i64 h, .int .i64 l] w).next 35 #[.int .i64 u, .int .i64 v]).alloc (.cells #[.int .i64 0, .int .i64 0, .int .i64 0, .int .i64 0, .int .i64 0, .int .i64 0] 25))
    rw [World.size_alloc] at P0
    have R0 := Lib.hid (((newS 25 #[.int .i64 i, .int .i64 s, .int .i64 x, .int .i64 y, .int .i64 h, .int .i64 l] w).alloc (.cells #[.int .i64 u, .int .i64 v] 35)).next 25 #[.int .i64 0, .int .i64 0, .int .i64 0, .int .i64 0, .int .i64 0, .int .i64 0])
    rw [World.size_alloc, World.size_alloc] at R0
    have e1 : IntKind.i64.wrap (h + 1) = h + 1 := IntWalk.i64_in _ (by omega)
    have gh : decide (3 ≤ h + 1) = false := decide_eq_false hg
    clear hg
    go_enter Tryz.func50, Tryz.ntmps50
    go_upto_region 1 with fail
    generalize ((w.alloc (.cells #[.int .i64 i, .int .i64 s, .int .i64 x, .int .i64 y, .int .i64 h, .int .i64 l] 25)).alloc (.cells #[.int .i64 u, .int .i64 v] 35)).alloc (.cells #[.int .i64 0, .int .i64 0, .int .i64 0, .int .i64 0, .int .i64 0, .int .i64 0] 25) = W0 at *
    have cT0 : W0.cell? ⟨w.heap.size, 0, none⟩ = some (.int .i64 i) := T0.out.cell 0
    have cTf0 := T0.out.frozen 0
    have cT1 : W0.cell? ⟨w.heap.size, 1, none⟩ = some (.int .i64 s) := T0.out.cell 1
    have cTf1 := T0.out.frozen 1
    have cT2 : W0.cell? ⟨w.heap.size, 2, none⟩ = some (.int .i64 x) := T0.out.cell 2
    have cTf2 := T0.out.frozen 2
    have cT3 : W0.cell? ⟨w.heap.size, 3, none⟩ = some (.int .i64 y) := T0.out.cell 3
    have cTf3 := T0.out.frozen 3
    have cT4 : W0.cell? ⟨w.heap.size, 4, none⟩ = some (.int .i64 h) := T0.out.cell 4
    have cTf4 := T0.out.frozen 4
    have cT5 : W0.cell? ⟨w.heap.size, 5, none⟩ = some (.int .i64 l) := T0.out.cell 5
    have cTf5 := T0.out.frozen 5
    have cP0 : W0.cell? ⟨w.heap.size + 1, 0, none⟩ = some (.int .i64 u) := P0.out.cell 0
    have cPf0 := P0.out.frozen 0
    have cP1 : W0.cell? ⟨w.heap.size + 1, 1, none⟩ = some (.int .i64 v) := P0.out.cell 1
    have cPf1 := P0.out.frozen 1
    go_upto_region 2 with fail
    clear cT0 cTf0 cT1 cTf1 cT2 cTf2 cT3 cTf3 cT4 cTf4 cT5 cTf5
    clear cP0 cPf0 cP1 cPf1
    have T1 := Lib.hid (show AtS 25 #[.int .i64 i, .int .i64 s, .int .i64 u, .int .i64 y, .int .i64 h, .int .i64 l] w (W0.setCell ⟨w.heap.size, 2, none⟩ (.int .i64 u)) (w.heap.size) from T0.out.set 2 (.int .i64 u))
    have P1 := Lib.hid (P0.out.other (b' := w.heap.size) (by omega) (by omega) 2 (.int .i64 u))
    have R1 := Lib.hid (R0.out.other (b' := w.heap.size) (by omega) (by omega) 2 (.int .i64 u))
    clear T0 P0 R0
    generalize W0.setCell ⟨w.heap.size, 2, none⟩ (.int .i64 u) = W1 at *
    have cT0 : W1.cell? ⟨w.heap.size, 0, none⟩ = some (.int .i64 i) := T1.out.cell 0
    have cTf0 := T1.out.frozen 0
    have cT1 : W1.cell? ⟨w.heap.size, 1, none⟩ = some (.int .i64 s) := T1.out.cell 1
    have cTf1 := T1.out.frozen 1
    have cT2 : W1.cell? ⟨w.heap.size, 2, none⟩ = some (.int .i64 u) := T1.out.cell 2
    have cTf2 := T1.out.frozen 2
    have cT3 : W1.cell? ⟨w.heap.size, 3, none⟩ = some (.int .i64 y) := T1.out.cell 3
    have cTf3 := T1.out.frozen 3
    have cT4 : W1.cell? ⟨w.heap.size, 4, none⟩ = some (.int .i64 h) := T1.out.cell 4
    have cTf4 := T1.out.frozen 4
    have cT5 : W1.cell? ⟨w.heap.size, 5, none⟩ = some (.int .i64 l) := T1.out.cell 5
    have cTf5 := T1.out.frozen 5
    have cP0 : W1.cell? ⟨w.heap.size + 1, 0, none⟩ = some (.int .i64 u) := P1.out.cell 0
    have cPf0 := P1.out.frozen 0
    have cP1 : W1.cell? ⟨w.heap.size + 1, 1, none⟩ = some (.int .i64 v) := P1.out.cell 1
    have cPf1 := P1.out.frozen 1
    go_upto_region 3 with fail
    clear cT0 cTf0 cT1 cTf1 cT2 cTf2 cT3 cTf3 cT4 cTf4 cT5 cTf5
    clear cP0 cPf0 cP1 cPf1
    have T2 := Lib.hid (show AtS 25 #[.int .i64 i, .int .i64 s, .int .i64 u, .int .i64 v, .int .i64 h, .int .i64 l] w (W1.setCell ⟨w.heap.size, 3, none⟩ (.int .i64 v)) (w.heap.size) from T1.out.set 3 (.int .i64 v))
    have P2 := Lib.hid (P1.out.other (b' := w.heap.size) (by omega) (by omega) 3 (.int .i64 v))
    have R2 := Lib.hid (R1.out.other (b' := w.heap.size) (by omega) (by omega) 3 (.int .i64 v))
    clear T1 P1 R1
    generalize W1.setCell ⟨w.heap.size, 3, none⟩ (.int .i64 v) = W2 at *
    have cT0 : W2.cell? ⟨w.heap.size, 0, none⟩ = some (.int .i64 i) := T2.out.cell 0
    have cTf0 := T2.out.frozen 0
    have cT1 : W2.cell? ⟨w.heap.size, 1, none⟩ = some (.int .i64 s) := T2.out.cell 1
    have cTf1 := T2.out.frozen 1
    have cT2 : W2.cell? ⟨w.heap.size, 2, none⟩ = some (.int .i64 u) := T2.out.cell 2
    have cTf2 := T2.out.frozen 2
    have cT3 : W2.cell? ⟨w.heap.size, 3, none⟩ = some (.int .i64 v) := T2.out.cell 3
    have cTf3 := T2.out.frozen 3
    have cT4 : W2.cell? ⟨w.heap.size, 4, none⟩ = some (.int .i64 h) := T2.out.cell 4
    have cTf4 := T2.out.frozen 4
    have cT5 : W2.cell? ⟨w.heap.size, 5, none⟩ = some (.int .i64 l) := T2.out.cell 5
    have cTf5 := T2.out.frozen 5
    go_upto_region 4 with fail
    clear cT0 cTf0 cT1 cTf1 cT2 cTf2 cT3 cTf3 cT4 cTf4 cT5 cTf5
    have T3 := Lib.hid (show AtS 25 #[.int .i64 i, .int .i64 s, .int .i64 u, .int .i64 v, .int .i64 h, .int .i64 0] w (W2.setCell ⟨w.heap.size, 5, none⟩ (.int .i64 0)) (w.heap.size) from T2.out.set 5 (.int .i64 0))
    have P3 := Lib.hid (P2.out.other (b' := w.heap.size) (by omega) (by omega) 5 (.int .i64 0))
    have R3 := Lib.hid (R2.out.other (b' := w.heap.size) (by omega) (by omega) 5 (.int .i64 0))
    clear T2 P2 R2
    generalize W2.setCell ⟨w.heap.size, 5, none⟩ (.int .i64 0) = W3 at *
    have cT0 : W3.cell? ⟨w.heap.size, 0, none⟩ = some (.int .i64 i) := T3.out.cell 0
    have cTf0 := T3.out.frozen 0
    have cT1 : W3.cell? ⟨w.heap.size, 1, none⟩ = some (.int .i64 s) := T3.out.cell 1
    have cTf1 := T3.out.frozen 1
    have cT2 : W3.cell? ⟨w.heap.size, 2, none⟩ = some (.int .i64 u) := T3.out.cell 2
    have cTf2 := T3.out.frozen 2
    have cT3 : W3.cell? ⟨w.heap.size, 3, none⟩ = some (.int .i64 v) := T3.out.cell 3
    have cTf3 := T3.out.frozen 3
    have cT4 : W3.cell? ⟨w.heap.size, 4, none⟩ = some (.int .i64 h) := T3.out.cell 4
    have cTf4 := T3.out.frozen 4
    have cT5 : W3.cell? ⟨w.heap.size, 5, none⟩ = some (.int .i64 0) := T3.out.cell 5
    have cTf5 := T3.out.frozen 5
    go_upto_region 5 with fail
    clear cT0 cTf0 cT1 cTf1 cT2 cTf2 cT3 cTf3 cT4 cTf4 cT5 cTf5
    have T4 := Lib.hid (show AtS 25 #[.int .i64 i, .int .i64 s, .int .i64 u, .int .i64 v, .int .i64 (h + 1), .int .i64 0] w (W3.setCell ⟨w.heap.size, 4, none⟩ (.int .i64 (h + 1))) (w.heap.size) from T3.out.set 4 (.int .i64 (h + 1)))
    have P4 := Lib.hid (P3.out.other (b' := w.heap.size) (by omega) (by omega) 4 (.int .i64 (h + 1)))
    have R4 := Lib.hid (R3.out.other (b' := w.heap.size) (by omega) (by omega) 4 (.int .i64 (h + 1)))
    clear T3 P3 R3
    generalize W3.setCell ⟨w.heap.size, 4, none⟩ (.int .i64 (h + 1)) = W4 at *
    have cT0 : W4.cell? ⟨w.heap.size, 0, none⟩ = some (.int .i64 i) := T4.out.cell 0
    have cTf0 := T4.out.frozen 0
    have cT1 : W4.cell? ⟨w.heap.size, 1, none⟩ = some (.int .i64 s) := T4.out.cell 1
    have cTf1 := T4.out.frozen 1
    have cT2 : W4.cell? ⟨w.heap.size, 2, none⟩ = some (.int .i64 u) := T4.out.cell 2
    have cTf2 := T4.out.frozen 2
    have cT3 : W4.cell? ⟨w.heap.size, 3, none⟩ = some (.int .i64 v) := T4.out.cell 3
    have cTf3 := T4.out.frozen 3
    have cT4 : W4.cell? ⟨w.heap.size, 4, none⟩ = some (.int .i64 (h + 1)) := T4.out.cell 4
    have cTf4 := T4.out.frozen 4
    have cT5 : W4.cell? ⟨w.heap.size, 5, none⟩ = some (.int .i64 0) := T4.out.cell 5
    have cTf5 := T4.out.frozen 5
    go_upto_region 6 with fail
    clear cT0 cTf0 cT1 cTf1 cT2 cTf2 cT3 cTf3 cT4 cTf4 cT5 cTf5
    have T5 := Lib.hid (show AtS 25 #[.int .i64 i, .int .i64 1, .int .i64 u, .int .i64 v, .int .i64 (h + 1), .int .i64 0] w (W4.setCell ⟨w.heap.size, 1, none⟩ (.int .i64 1)) (w.heap.size) from T4.out.set 1 (.int .i64 1))
    have P5 := Lib.hid (P4.out.other (b' := w.heap.size) (by omega) (by omega) 1 (.int .i64 1))
    have R5 := Lib.hid (R4.out.other (b' := w.heap.size) (by omega) (by omega) 1 (.int .i64 1))
    clear T4 P4 R4
    generalize W4.setCell ⟨w.heap.size, 1, none⟩ (.int .i64 1) = W5 at *
    have cT0 : W5.cell? ⟨w.heap.size, 0, none⟩ = some (.int .i64 i) := T5.out.cell 0
    have cTf0 := T5.out.frozen 0
    have cT1 : W5.cell? ⟨w.heap.size, 1, none⟩ = some (.int .i64 1) := T5.out.cell 1
    have cTf1 := T5.out.frozen 1
    have cT2 : W5.cell? ⟨w.heap.size, 2, none⟩ = some (.int .i64 u) := T5.out.cell 2
    have cTf2 := T5.out.frozen 2
    have cT3 : W5.cell? ⟨w.heap.size, 3, none⟩ = some (.int .i64 v) := T5.out.cell 3
    have cTf3 := T5.out.frozen 3
    have cT4 : W5.cell? ⟨w.heap.size, 4, none⟩ = some (.int .i64 (h + 1)) := T5.out.cell 4
    have cTf4 := T5.out.frozen 4
    have cT5 : W5.cell? ⟨w.heap.size, 5, none⟩ = some (.int .i64 0) := T5.out.cell 5
    have cTf5 := T5.out.frozen 5
    have cR0 : W5.cell? ⟨w.heap.size + 1 + 1, 0, none⟩ = some (.int .i64 0) := R5.out.cell 0
    have cRf0 := R5.out.frozen 0
    have cR1 : W5.cell? ⟨w.heap.size + 1 + 1, 1, none⟩ = some (.int .i64 0) := R5.out.cell 1
    have cRf1 := R5.out.frozen 1
    have cR2 : W5.cell? ⟨w.heap.size + 1 + 1, 2, none⟩ = some (.int .i64 0) := R5.out.cell 2
    have cRf2 := R5.out.frozen 2
    have cR3 : W5.cell? ⟨w.heap.size + 1 + 1, 3, none⟩ = some (.int .i64 0) := R5.out.cell 3
    have cRf3 := R5.out.frozen 3
    have cR4 : W5.cell? ⟨w.heap.size + 1 + 1, 4, none⟩ = some (.int .i64 0) := R5.out.cell 4
    have cRf4 := R5.out.frozen 4
    have cR5 : W5.cell? ⟨w.heap.size + 1 + 1, 5, none⟩ = some (.int .i64 0) := R5.out.cell 5
    have cRf5 := R5.out.frozen 5
    have HE := Lib.hid ((((((R5.out.set 0 (.int .i64 i)).set 1 (.int .i64 1)).set 2 (.int .i64 u)).set 3 (.int .i64 v)).set 4 (.int .i64 (h + 1))).set 5 (.int .i64 0))
    go_wp2_with fail
    have hl := HE.out.load Tryz.underlying25 rfl (by kernel_rfl)
    refine bodyPost_ret (v := .agg #[.int .i64 i, .int .i64 1, .int .i64 u, .int .i64 v, .int .i64 (h + 1), .int .i64 0]) ?_ rfl ⟨rfl, HE.out.1⟩
    rw [results_cell1 rfl]
    simp [asAddr, Result.andThen, hl]

set_option maxRecDepth 100000 in
set_option maxHeartbeats 2000000 in
theorem miss14_no (i s x y h l : Int) (w : World) (hk : (!decide (s = 1) && !decide (l = 3)) = false) :
    Calls Tryz.prog 95 #[.agg #[.int .i64 i, .int .i64 s, .int .i64 x, .int .i64 y, .int .i64 h, .int .i64 l]] w fun e w' => e = .returned (.tuple #[.agg #[.int .i64 0, .int .i64 0, .int .i64 0, .int .i64 0, .int .i64 0, .int .i64 0], .bool false]) ∧ Below w.heap.size w w' := by
  by_cases h1 : s = 1
  · have g1 : (s == 1) = true := beq_iff_eq.mpr h1
    clear hk h1
    have T0 := Lib.hid ((newS 25 #[.int .i64 i, .int .i64 s, .int .i64 x, .int .i64 y, .int .i64 h, .int .i64 l] w).alloc (.cells #[.int .i64 0, .int .i64 0, .int .i64 0, .int .i64 0, .int .i64 0, .int .i64 0] 25))
    have R0 := Lib.hid ((newS 25 #[.int .i64 i, .int .i64 s, .int .i64 x, .int .i64 y, .int .i64 h, .int .i64 l] w).next 25 #[.int .i64 0, .int .i64 0, .int .i64 0, .int .i64 0, .int .i64 0, .int .i64 0])
    rw [World.size_alloc] at R0
    go_enter Tryz.func95, Tryz.ntmps95
    go_upto_region 1 with fail
    generalize (w.alloc (.cells #[.int .i64 i, .int .i64 s, .int .i64 x, .int .i64 y, .int .i64 h, .int .i64 l] 25)).alloc (.cells #[.int .i64 0, .int .i64 0, .int .i64 0, .int .i64 0, .int .i64 0, .int .i64 0] 25) = W0 at *
    have cT0 : W0.cell? ⟨w.heap.size, 0, none⟩ = some (.int .i64 i) := T0.out.cell 0
    have cTf0 := T0.out.frozen 0
    have cT1 : W0.cell? ⟨w.heap.size, 1, none⟩ = some (.int .i64 s) := T0.out.cell 1
    have cTf1 := T0.out.frozen 1
    have cT2 : W0.cell? ⟨w.heap.size, 2, none⟩ = some (.int .i64 x) := T0.out.cell 2
    have cTf2 := T0.out.frozen 2
    have cT3 : W0.cell? ⟨w.heap.size, 3, none⟩ = some (.int .i64 y) := T0.out.cell 3
    have cTf3 := T0.out.frozen 3
    have cT4 : W0.cell? ⟨w.heap.size, 4, none⟩ = some (.int .i64 h) := T0.out.cell 4
    have cTf4 := T0.out.frozen 4
    have cT5 : W0.cell? ⟨w.heap.size, 5, none⟩ = some (.int .i64 l) := T0.out.cell 5
    have cTf5 := T0.out.frozen 5
    have cR0 : W0.cell? ⟨w.heap.size + 1, 0, none⟩ = some (.int .i64 0) := R0.out.cell 0
    have cRf0 := R0.out.frozen 0
    have cR1 : W0.cell? ⟨w.heap.size + 1, 1, none⟩ = some (.int .i64 0) := R0.out.cell 1
    have cRf1 := R0.out.frozen 1
    have cR2 : W0.cell? ⟨w.heap.size + 1, 2, none⟩ = some (.int .i64 0) := R0.out.cell 2
    have cRf2 := R0.out.frozen 2
    have cR3 : W0.cell? ⟨w.heap.size + 1, 3, none⟩ = some (.int .i64 0) := R0.out.cell 3
    have cRf3 := R0.out.frozen 3
    have cR4 : W0.cell? ⟨w.heap.size + 1, 4, none⟩ = some (.int .i64 0) := R0.out.cell 4
    have cRf4 := R0.out.frozen 4
    have cR5 : W0.cell? ⟨w.heap.size + 1, 5, none⟩ = some (.int .i64 0) := R0.out.cell 5
    have cRf5 := R0.out.frozen 5
    have HE := Lib.hid ((((((R0.out.set 0 (.int .i64 0)).set 1 (.int .i64 0)).set 2 (.int .i64 0)).set 3 (.int .i64 0)).set 4 (.int .i64 0)).set 5 (.int .i64 0))
    go_wp2_with fail
    have hl := HE.out.load Tryz.underlying25 rfl (by kernel_rfl)
    refine bodyPost_ret (v := .tuple #[.agg #[.int .i64 0, .int .i64 0, .int .i64 0, .int .i64 0, .int .i64 0, .int .i64 0], .bool false]) ?_ rfl ⟨rfl, HE.out.1⟩
    rw [results_cell_tmp rfl]
    simp [asAddr, Result.andThen, hl]
  · have g1 : (s == 1) = false := beq_eq_false_iff_ne.mpr h1
    have g2 : (l == 3) = true := beq_iff_eq.mpr (by
      rw [decide_eq_false h1] at hk
      simpa using hk)
    clear hk h1
    have T0 := Lib.hid ((newS 25 #[.int .i64 i, .int .i64 s, .int .i64 x, .int .i64 y, .int .i64 h, .int .i64 l] w).alloc (.cells #[.int .i64 0, .int .i64 0, .int .i64 0, .int .i64 0, .int .i64 0, .int .i64 0] 25))
    have R0 := Lib.hid ((newS 25 #[.int .i64 i, .int .i64 s, .int .i64 x, .int .i64 y, .int .i64 h, .int .i64 l] w).next 25 #[.int .i64 0, .int .i64 0, .int .i64 0, .int .i64 0, .int .i64 0, .int .i64 0])
    rw [World.size_alloc] at R0
    go_enter Tryz.func95, Tryz.ntmps95
    go_upto_region 1 with fail
    generalize (w.alloc (.cells #[.int .i64 i, .int .i64 s, .int .i64 x, .int .i64 y, .int .i64 h, .int .i64 l] 25)).alloc (.cells #[.int .i64 0, .int .i64 0, .int .i64 0, .int .i64 0, .int .i64 0, .int .i64 0] 25) = W0 at *
    have cT0 : W0.cell? ⟨w.heap.size, 0, none⟩ = some (.int .i64 i) := T0.out.cell 0
    have cTf0 := T0.out.frozen 0
    have cT1 : W0.cell? ⟨w.heap.size, 1, none⟩ = some (.int .i64 s) := T0.out.cell 1
    have cTf1 := T0.out.frozen 1
    have cT2 : W0.cell? ⟨w.heap.size, 2, none⟩ = some (.int .i64 x) := T0.out.cell 2
    have cTf2 := T0.out.frozen 2
    have cT3 : W0.cell? ⟨w.heap.size, 3, none⟩ = some (.int .i64 y) := T0.out.cell 3
    have cTf3 := T0.out.frozen 3
    have cT4 : W0.cell? ⟨w.heap.size, 4, none⟩ = some (.int .i64 h) := T0.out.cell 4
    have cTf4 := T0.out.frozen 4
    have cT5 : W0.cell? ⟨w.heap.size, 5, none⟩ = some (.int .i64 l) := T0.out.cell 5
    have cTf5 := T0.out.frozen 5
    have cR0 : W0.cell? ⟨w.heap.size + 1, 0, none⟩ = some (.int .i64 0) := R0.out.cell 0
    have cRf0 := R0.out.frozen 0
    have cR1 : W0.cell? ⟨w.heap.size + 1, 1, none⟩ = some (.int .i64 0) := R0.out.cell 1
    have cRf1 := R0.out.frozen 1
    have cR2 : W0.cell? ⟨w.heap.size + 1, 2, none⟩ = some (.int .i64 0) := R0.out.cell 2
    have cRf2 := R0.out.frozen 2
    have cR3 : W0.cell? ⟨w.heap.size + 1, 3, none⟩ = some (.int .i64 0) := R0.out.cell 3
    have cRf3 := R0.out.frozen 3
    have cR4 : W0.cell? ⟨w.heap.size + 1, 4, none⟩ = some (.int .i64 0) := R0.out.cell 4
    have cRf4 := R0.out.frozen 4
    have cR5 : W0.cell? ⟨w.heap.size + 1, 5, none⟩ = some (.int .i64 0) := R0.out.cell 5
    have cRf5 := R0.out.frozen 5
    have HE := Lib.hid ((((((R0.out.set 0 (.int .i64 0)).set 1 (.int .i64 0)).set 2 (.int .i64 0)).set 3 (.int .i64 0)).set 4 (.int .i64 0)).set 5 (.int .i64 0))
    go_wp2_with fail
    have hl := HE.out.load Tryz.underlying25 rfl (by kernel_rfl)
    refine bodyPost_ret (v := .tuple #[.agg #[.int .i64 0, .int .i64 0, .int .i64 0, .int .i64 0, .int .i64 0, .int .i64 0], .bool false]) ?_ rfl ⟨rfl, HE.out.1⟩
    rw [results_cell_tmp rfl]
    simp [asAddr, Result.andThen, hl]

set_option maxRecDepth 100000 in
set_option maxHeartbeats 2000000 in
theorem miss14_yes (i s x y h l : Int) (w : World) (h0 : -1000000 ≤ l) (h1 : l ≤ 1000000) (hk : (!decide (s = 1) && !decide (l = 3)) = true) :
    Calls Tryz.prog 95 #[.agg #[.int .i64 i, .int .i64 s, .int .i64 x, .int .i64 y, .int .i64 h, .int .i64 l]] w fun e w' => e = .returned (.tuple #[.agg #[.int .i64 i, .int .i64 3, .int .i64 x, .int .i64 y, .int .i64 h, .int .i64 (l + 1)], .bool true]) ∧ Below w.heap.size w w' := by
  rw [Bool.and_eq_true] at hk
  have g1 : (s == 1) = false := beq_eq_false_iff_ne.mpr (by simpa using hk.1)
  have g2 : (l == 3) = false := beq_eq_false_iff_ne.mpr (by simpa using hk.2)
  have e1 : IntKind.i64.wrap (l + 1) = l + 1 := IntWalk.i64_in _ (by omega)
  clear hk
  have T0 := Lib.hid ((newS 25 #[.int .i64 i, .int .i64 s, .int .i64 x, .int .i64 y, .int .i64 h, .int .i64 l] w).alloc (.cells #[.int .i64 0, .int .i64 0, .int .i64 0, .int .i64 0, .int .i64 0, .int .i64 0] 25))
  have R0 := Lib.hid ((newS 25 #[.int .i64 i, .int .i64 s, .int .i64 x, .int .i64 y, .int .i64 h, .int .i64 l] w).next 25 #[.int .i64 0, .int .i64 0, .int .i64 0, .int .i64 0, .int .i64 0, .int .i64 0])
  rw [World.size_alloc] at R0
  go_enter Tryz.func95, Tryz.ntmps95
  go_upto_region 1 with fail
  generalize (w.alloc (.cells #[.int .i64 i, .int .i64 s, .int .i64 x, .int .i64 y, .int .i64 h, .int .i64 l] 25)).alloc (.cells #[.int .i64 0, .int .i64 0, .int .i64 0, .int .i64 0, .int .i64 0, .int .i64 0] 25) = W0 at *
  have cT0 : W0.cell? ⟨w.heap.size, 0, none⟩ = some (.int .i64 i) := T0.out.cell 0
  have cTf0 := T0.out.frozen 0
  have cT1 : W0.cell? ⟨w.heap.size, 1, none⟩ = some (.int .i64 s) := T0.out.cell 1
  have cTf1 := T0.out.frozen 1
  have cT2 : W0.cell? ⟨w.heap.size, 2, none⟩ = some (.int .i64 x) := T0.out.cell 2
  have cTf2 := T0.out.frozen 2
  have cT3 : W0.cell? ⟨w.heap.size, 3, none⟩ = some (.int .i64 y) := T0.out.cell 3
  have cTf3 := T0.out.frozen 3
  have cT4 : W0.cell? ⟨w.heap.size, 4, none⟩ = some (.int .i64 h) := T0.out.cell 4
  have cTf4 := T0.out.frozen 4
  have cT5 : W0.cell? ⟨w.heap.size, 5, none⟩ = some (.int .i64 l) := T0.out.cell 5
  have cTf5 := T0.out.frozen 5
  go_upto_region 4 with fail
  clear cT0 cTf0 cT1 cTf1 cT2 cTf2 cT3 cTf3 cT4 cTf4 cT5 cTf5
  have T1 := Lib.hid (show AtS 25 #[.int .i64 i, .int .i64 s, .int .i64 x, .int .i64 y, .int .i64 h, .int .i64 (l + 1)] w (W0.setCell ⟨w.heap.size, 5, none⟩ (.int .i64 (l + 1))) (w.heap.size) from T0.out.set 5 (.int .i64 (l + 1)))
  have R1 := Lib.hid (R0.out.other (b' := w.heap.size) (by omega) (by omega) 5 (.int .i64 (l + 1)))
  clear T0 R0
  generalize W0.setCell ⟨w.heap.size, 5, none⟩ (.int .i64 (l + 1)) = W1 at *
  have cT0 : W1.cell? ⟨w.heap.size, 0, none⟩ = some (.int .i64 i) := T1.out.cell 0
  have cTf0 := T1.out.frozen 0
  have cT1 : W1.cell? ⟨w.heap.size, 1, none⟩ = some (.int .i64 s) := T1.out.cell 1
  have cTf1 := T1.out.frozen 1
  have cT2 : W1.cell? ⟨w.heap.size, 2, none⟩ = some (.int .i64 x) := T1.out.cell 2
  have cTf2 := T1.out.frozen 2
  have cT3 : W1.cell? ⟨w.heap.size, 3, none⟩ = some (.int .i64 y) := T1.out.cell 3
  have cTf3 := T1.out.frozen 3
  have cT4 : W1.cell? ⟨w.heap.size, 4, none⟩ = some (.int .i64 h) := T1.out.cell 4
  have cTf4 := T1.out.frozen 4
  have cT5 : W1.cell? ⟨w.heap.size, 5, none⟩ = some (.int .i64 (l + 1)) := T1.out.cell 5
  have cTf5 := T1.out.frozen 5
  go_upto_region 5 with fail
  clear cT0 cTf0 cT1 cTf1 cT2 cTf2 cT3 cTf3 cT4 cTf4 cT5 cTf5
  have T2 := Lib.hid (show AtS 25 #[.int .i64 i, .int .i64 3, .int .i64 x, .int .i64 y, .int .i64 h, .int .i64 (l + 1)] w (W1.setCell ⟨w.heap.size, 1, none⟩ (.int .i64 3)) (w.heap.size) from T1.out.set 1 (.int .i64 3))
  have R2 := Lib.hid (R1.out.other (b' := w.heap.size) (by omega) (by omega) 1 (.int .i64 3))
  clear T1 R1
  generalize W1.setCell ⟨w.heap.size, 1, none⟩ (.int .i64 3) = W2 at *
  have cT0 : W2.cell? ⟨w.heap.size, 0, none⟩ = some (.int .i64 i) := T2.out.cell 0
  have cTf0 := T2.out.frozen 0
  have cT1 : W2.cell? ⟨w.heap.size, 1, none⟩ = some (.int .i64 3) := T2.out.cell 1
  have cTf1 := T2.out.frozen 1
  have cT2 : W2.cell? ⟨w.heap.size, 2, none⟩ = some (.int .i64 x) := T2.out.cell 2
  have cTf2 := T2.out.frozen 2
  have cT3 : W2.cell? ⟨w.heap.size, 3, none⟩ = some (.int .i64 y) := T2.out.cell 3
  have cTf3 := T2.out.frozen 3
  have cT4 : W2.cell? ⟨w.heap.size, 4, none⟩ = some (.int .i64 h) := T2.out.cell 4
  have cTf4 := T2.out.frozen 4
  have cT5 : W2.cell? ⟨w.heap.size, 5, none⟩ = some (.int .i64 (l + 1)) := T2.out.cell 5
  have cTf5 := T2.out.frozen 5
  have cR0 : W2.cell? ⟨w.heap.size + 1, 0, none⟩ = some (.int .i64 0) := R2.out.cell 0
  have cRf0 := R2.out.frozen 0
  have cR1 : W2.cell? ⟨w.heap.size + 1, 1, none⟩ = some (.int .i64 0) := R2.out.cell 1
  have cRf1 := R2.out.frozen 1
  have cR2 : W2.cell? ⟨w.heap.size + 1, 2, none⟩ = some (.int .i64 0) := R2.out.cell 2
  have cRf2 := R2.out.frozen 2
  have cR3 : W2.cell? ⟨w.heap.size + 1, 3, none⟩ = some (.int .i64 0) := R2.out.cell 3
  have cRf3 := R2.out.frozen 3
  have cR4 : W2.cell? ⟨w.heap.size + 1, 4, none⟩ = some (.int .i64 0) := R2.out.cell 4
  have cRf4 := R2.out.frozen 4
  have cR5 : W2.cell? ⟨w.heap.size + 1, 5, none⟩ = some (.int .i64 0) := R2.out.cell 5
  have cRf5 := R2.out.frozen 5
  have HE := Lib.hid ((((((R2.out.set 0 (.int .i64 i)).set 1 (.int .i64 3)).set 2 (.int .i64 x)).set 3 (.int .i64 y)).set 4 (.int .i64 h)).set 5 (.int .i64 (l + 1)))
  go_wp2_with fail
  have hl := HE.out.load Tryz.underlying25 rfl (by kernel_rfl)
  refine bodyPost_ret (v := .tuple #[.agg #[.int .i64 i, .int .i64 3, .int .i64 x, .int .i64 y, .int .i64 h, .int .i64 (l + 1)], .bool true]) ?_ rfl ⟨rfl, HE.out.1⟩
  rw [results_cell_tmp rfl]
  simp [asAddr, Result.andThen, hl]

set_option maxRecDepth 100000 in
set_option maxHeartbeats 2000000 in
theorem rising14 (xs : List Int) (A : Option Addr) (n c : Nat) (w : World) (hn : n ≤ 1048577) (h1 : RdI w w.heap.size A n xs) :
    Calls Tryz.prog 94 #[.slice A n c, .int .i64 1, .int .i64 999] w fun e w' => e = .returned (.bool (riB xs 1 999 n)) ∧ Below w.heap.size w w' := by
  have HNO := Lib.hid (fun k (hk : k < n) (h : riB xs 1 999 (k + 1) = false) => riB_cut (n := n) h hk)
  have HR := Lib.hid h1
  clear h1
  go_enter Tryz.func94, Tryz.ntmps94
  go_wp2_with fail
  go_loopw [7] (fun i wr => ∃ k : Nat, k ≤ n ∧ i = .int .i64 k ∧ Below w.heap.size w wr ∧ riB xs 1 999 k = true) (fun i _ => n - (intOf i).toNat)
  case atStart => exact ⟨0, Nat.zero_le _, rfl, Below.refl _ _, rfl⟩
  case round =>
    obtain ⟨k, hk, rfl, hb, hck⟩ := hrel
    have HB := Lib.hid hb
    by_cases hlt : k < n
    · have hlt2 : (k : Int) < (n : Int) := by omega
      obtain ⟨b1, o1, x, rfl, l1, hx, p0'⟩ := HR.out.at_ hlt
      have p0 := (hb.cell (p := ⟨b1, o1 + k, none⟩) l1).trans p0'
      have hxd : xs.getD k 0 = x := by rw [List.getD_eq_getElem?_getD, hx]; rfl
      have t1 := fun w => l1In x 1 999 w
      have HO := Lib.hid (show riB xs 1 999 (k + 1) = (isIn x 1 999 && (decide (k = 0) || decide (xs.getD (k - 1) 0 < x))) by
        rw [show riB xs 1 999 (k + 1) = (riB xs 1 999 k && (isIn (xs.getD k 0) 1 999 && (decide (k = 0) || decide (xs.getD (k - 1) 0 < xs.getD k 0)))) from rfl, hck, Bool.true_and, hxd])
      have HNk := Lib.hid (HNO.out k hlt)
      have HZ := Lib.hid (fun p (hp : p < n) => by
        obtain ⟨b2, o2, z, eA, l2, hz, q0⟩ := HR.out.at_ hp
        obtain ⟨rfl, rfl⟩ : b1 = b2 ∧ o1 = o2 := by injection eA with e; injection e with e1 e2; exact ⟨e1, e2⟩
        exact (show ∃ z, wr.cell? ⟨b1, o1 + p, none⟩ = some (.int .i64 z) ∧ xs.getD p 0 = z from ⟨z, (hb.cell (p := ⟨b1, o1 + p, none⟩) l2).trans q0, by rw [List.getD_eq_getElem?_getD, hz]; rfl⟩))
      clear hb hck HNO hx hxd p0'
      cases ha : isIn x 1 999
      · have HN := Lib.hid (HNk.out (by rw [HO.out, ha]; rfl))
        rw [ha] at t1
        have T1 := Lib.hid (fun w d => aid.quiet_left (t1 (World.drewN w d)))
        clear t1 ha HO HZ
        go_wp2_with fail
        refine wp_region_quiet_lit (by kernel_rfl) (by kernel_rfl) ?_
        repeat (
          with_reducible refine wpQuiet_step (fun K hK => ?_)
          go_simp
          first
            | (refine hK _ ?_; clear hK K)
            | (apply Exists.intro
               refine ⟨fun _ => ?_, hK _ ?_⟩
               (first
                 | (go_at_call 76; with_reducible exact T1.out _ _))
               clear hK K))
        with_reducible refine wpQuiet_nil ?_
        intro _ hw'
        obtain ⟨nq, hw''⟩ := hw'
        subst hw''
        have hbk := Lib.hid (aid.below_drewN HB.out nq)
        go_wp2_with fail
        go_ret
        exact ⟨by rw [HN.out]; rfl, hbk.out⟩
      rw [ha] at t1
      have T1 := Lib.hid (fun w d => aid.quiet_left (t1 (World.drewN w d)))
      clear t1
      rcases Nat.eq_zero_or_pos k with h0 | h0
      · have HT := Lib.hid (show riB xs 1 999 (k + 1) = true by rw [HO.out, ha, decide_eq_true h0]; rfl)
        subst h0
        rw [Nat.add_zero] at p0
        clear ha HO HNk HZ
        go_wp2_with fail
        refine wp_region_quiet_lit (by kernel_rfl) (by kernel_rfl) ?_
        repeat (
          with_reducible refine wpQuiet_step (fun K hK => ?_)
          go_simp
          first
            | (refine hK _ ?_; clear hK K)
            | (apply Exists.intro
               refine ⟨fun _ => ?_, hK _ ?_⟩
               (first
                 | (go_at_call 76; with_reducible exact T1.out _ _))
               clear hK K))
        with_reducible refine wpQuiet_nil ?_
        intro _ hw'
        obtain ⟨nq, hw''⟩ := hw'
        subst hw''
        have hbk := Lib.hid (aid.below_drewN HB.out nq)
        clear HB
        go_wp2_with fail
        go_roundw
        case rel => exact ⟨0 + 1, by omega, by go_num, hbk.out, HT.out⟩
        case measure => simp [intOf]; omega
      obtain ⟨p, hp⟩ : ∃ p, p + 1 = k := ⟨k - 1, by omega⟩
      rw [show k - 1 = p by omega] at HO
      have hpn2 : (p : Int) < (n : Int) := by omega
      have hp0 : (0 : Int) ≤ (p : Int) := Int.natCast_nonneg _
      have e1 : IntKind.i64.wrap ((k : Int) - 1) = (p : Int) := by rw [IntWalk.i64_in _ (by omega)]; omega
      have hk0 : decide (0 < k) = true := decide_eq_true h0
      obtain ⟨z, q0, hz⟩ := HZ.out p (by omega)
      rw [hz] at HO
      clear HZ hp hz
      by_cases hs : z < x
      · have HT := Lib.hid (show riB xs 1 999 (k + 1) = true by rw [HO.out, ha, decide_eq_true hs]; simp)
        have hs2 : ¬ x ≤ z := by omega
        clear ha HO HNk
        go_wp2_with fail
        refine wp_region_quiet_lit (by kernel_rfl) (by kernel_rfl) ?_
        repeat (
          with_reducible refine wpQuiet_step (fun K hK => ?_)
          go_simp
          first
            | (refine hK _ ?_; clear hK K)
            | (apply Exists.intro
               refine ⟨fun _ => ?_, hK _ ?_⟩
               (first
                 | (go_at_call 76; with_reducible exact T1.out _ _))
               clear hK K))
        with_reducible refine wpQuiet_nil ?_
        intro _ hw'
        obtain ⟨nq, hw''⟩ := hw'
        subst hw''
        have hbk := Lib.hid (aid.below_drewN HB.out nq)
        clear HB
        go_wp2_with fail
        go_roundw
        case rel => exact ⟨k + 1, by omega, by go_num, hbk.out, HT.out⟩
        case measure => simp [intOf]; omega
      · have HN := Lib.hid (HNk.out (by rw [HO.out, ha, decide_eq_false hs, decide_eq_false (show ¬ k = 0 by omega)]; rfl))
        have hs2 : x ≤ z := by omega
        clear ha HO HNk hs
        go_wp2_with fail
        refine wp_region_quiet_lit (by kernel_rfl) (by kernel_rfl) ?_
        repeat (
          with_reducible refine wpQuiet_step (fun K hK => ?_)
          go_simp
          first
            | (refine hK _ ?_; clear hK K)
            | (apply Exists.intro
               refine ⟨fun _ => ?_, hK _ ?_⟩
               (first
                 | (go_at_call 76; with_reducible exact T1.out _ _))
               clear hK K))
        with_reducible refine wpQuiet_nil ?_
        intro _ hw'
        obtain ⟨nq, hw''⟩ := hw'
        subst hw''
        have hbk := Lib.hid (aid.below_drewN HB.out nq)
        go_wp2_with fail
        go_ret
        exact ⟨by rw [HN.out]; rfl, hbk.out⟩
    · obtain rfl : k = n := by omega
      have HE := Lib.hid hck
      clear hck HNO
      go_wp2_with fail
      go_ret
      exact ⟨by rw [HE.out]; rfl, HB.out⟩

end Go.Proofs.YtfigjfckelichaaGreatDoor.trkt
